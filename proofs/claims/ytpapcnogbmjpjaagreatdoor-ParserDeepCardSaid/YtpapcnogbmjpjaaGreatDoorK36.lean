/- Whether something is so of all of a tree: by the tree. What is written to a builder. -/
import Derived.Test.YtpapcnogbmjpjaaGreatDoorK35
import Derived.Shelf.Strings.Builder1
namespace Go.Proofs.YtpapcnogbmjpjaaGreatDoor
open Go.RowKit
set_option maxRecDepth 100000
set_option linter.unusedSimpArgs false
set_option linter.unusedVariables false
attribute [local go_sem] Oper.semAt_some

def NotC (t : Tr) : Prop := ∀ (Is Ka Fa Oa m : Nat) (tI tK tF tO : TypeId) (w : World) (E : List (Key × Int)) (D : Nat → Prop) (n : Nat), EnvO w Is Ka Fa Oa m tI tK tF tO → Met w m E D n → n + sz t ≤ 1000 → AtT w t → (∀ b ∈ bT t, ¬ D b) → (bT t).Nodup →
  Calls Tryz.prog 89 #[.agg (exC t).toArray, .pointer (some ⟨Oa, 0, none⟩)] w fun e w' => e = .returned (.bool false) ∧ Chg m w w' ∧ ∃ E', Met w' m E' (fun b => D b ∨ b ∈ bT t) (n + sz t)
set_option maxHeartbeats 4000000 in
theorem not_step (t : Tr) (h : OverC t) : NotC t := by
  intro Is Ka Fa Oa m tI tK tF tO w E D n hE hM hn hA hD hN
  have hB := below_alloc w (.cells (exC t).toArray 32)
  have HO := Lib.hid (h Is Ka Fa Oa m tI tK tF tO (w.alloc (.cells (exC t).toArray 32)) E D n (hE.chg hM.at_ (Chg.of hB)) (hM.on hB) hn (AtT.on t hA (fun k hk => hB.block k (AtT.lt t hA k hk)) hB.size) hD hN)
  have H0 := Lib.hid (heap_alloc_new w (.cells (exC t).toArray 32))
  have HB0 := Lib.hid hB
  obtain ⟨o0, _⟩ := one_cell (heap_on hB hE.hO)
  have hnot : ∀ (x : Bool) (w : World), (Op.unary .not (.bool x)).run Tryz.prog w = .ok (.bool (!x)) w := fun _ _ => rfl
  clear h hE hM hn hA hD hN hB
  obtain ⟨Q, hQ⟩ : ∃ Q : World → Prop, Q = fun w' => ∃ E', Met w' m E' (fun b => D b ∨ b ∈ bT t) (n + sz t) := ⟨_, rfl⟩
  have HO2 : Hid (Calls Tryz.prog 90 #[.agg (exC t).toArray, .pointer (some ⟨Is, 0, none⟩), .pointer (some ⟨Ka, 0, none⟩), .pointer (some ⟨Fa, 0, none⟩)] (w.alloc (.cells (exC t).toArray 32)) fun e w' => e = .returned (.bool true) ∧ Chg m (w.alloc (.cells (exC t).toArray 32)) w' ∧ Q w') := Lib.hid (by rw [hQ]; exact HO.out)
  show Calls Tryz.prog 89 #[.agg (exC t).toArray, .pointer (some ⟨Oa, 0, none⟩)] w fun e w' => e = .returned (.bool false) ∧ Chg m w w' ∧ (fun w' => ∃ E', Met w' m E' (fun b => D b ∨ b ∈ bT t) (n + sz t)) w'
  rw [← hQ]
  clear HO hQ
  obtain ⟨t0, t1, t2, fA, fn, fc, kb, kc, ks⟩ := t
  obtain ⟨KA, KN, KC, hkv⟩ := kids_slice (kv := kidsV kb kc ks) rfl
  have hx : (exC (.mk t0 t1 t2 fA fn fc kb kc ks)).toArray = #[.int .i64 t0, .int .i64 t1, .string t2, .slice fA fn fc, .slice KA KN KC] := by simp only [exC]; rw [hkv]
  rw [hx] at HO2 H0 HB0 o0 ⊢
  clear hx hkv
  obtain ⟨e0, e1, e2, e3, e4⟩ := row5c H0.out
  go_enter Tryz.func89, Tryz.ntmps89
  go_wp2_with (go_at_call 90; refine HO2.out.mono ?_; rintro e w3 ⟨rfl, hc, hq⟩; refine Stop.out ?_)
  unfold Stop
  have HFin := Lib.hid (And.intro (Chg.trans (Chg.of (R := m) HB0.out) hc) hq)
  clear e0 e1 e2 e3 e4 o0 hc hq
  go_wp2
  go_ret
  exact ⟨rfl, HFin.out⟩
set_option maxHeartbeats 8000000 in
theorem index_step {kb kc : Nat} {ks : List Tr} (hs : ∀ t ∈ ks, NotC t) (hl : ks.length ≤ 256) (Is Ka Fa Oa m : Nat) (tI tK tF tO : TypeId) (w : World) (E : List (Key × Int)) (D : Nat → Prop) (n : Nat) (hE : EnvO w Is Ka Fa Oa m tI tK tF tO) (hM : Met w m E D n) (hn : n + szL ks ≤ 1000) (hA : AtK w kb kc ks) (hD : ∀ b ∈ bL ks, ¬ D b) (hN : (bL ks).Nodup) :
    Calls Tryz.prog 106 #[kidsV kb kc ks, .func (.func 89) #[] #[.pointer (some ⟨Oa, 0, none⟩)]] w fun e w' => e = .returned (.int .i64 (-1)) ∧ Chg m w w' ∧ ∃ E', Met w' m E' (fun b => D b ∨ b ∈ bL ks) (n + szL ks) := by
  obtain ⟨KA, KC, hkv, hKA⟩ := kidsV_form kb kc ks
  rw [hkv]
  have HS := Lib.hid hs
  have HE := Lib.hid hE
  have HA := Lib.hid hA
  have HM := Lib.hid hM
  have HDN := Lib.hid (And.intro hD hN)
  have HNn := Lib.hid hn
  have HKA := Lib.hid hKA
  have hln : (ks.length : Int) ≤ 256 := by omega
  clear hs hl hE hM hn hA hD hN hkv hKA
  go_enter Tryz.func106, Tryz.ntmps106
  go_wp2
  go_loopw [8] (fun v8 wr => ∃ k : Nat, k ≤ ks.length ∧ v8 = .int .i64 (k : Nat) ∧ Hid (Chg m w wr ∧ ∃ E', Met wr m E' (fun b => D b ∨ b ∈ bL (ks.take k)) (n + szL (ks.take k)))) (fun v8 _ => ks.length - (intOf v8).toNat)
  case atStart => exact ⟨0, Nat.zero_le _, rfl, Lib.hid ⟨Chg.refl _ _, E, HM.out.wide (fun b hb => .inl hb) (Nat.le_add_right _ _)⟩⟩
  case round =>
    obtain ⟨k, hk, rfl, HB⟩ := hrel
    by_cases hlt : k < ks.length
    · have hka := HKA.out (fun e => by rw [e] at hlt; simp at hlt)
      subst hka
      obtain ⟨hcw, E', hmet⟩ := HB.out
      have hne : ∀ q ∈ bKs kb ks, q ≠ m := fun q hq e => by
        obtain ⟨cs, hcs⟩ := AtK.typed HA.out q hq
        exact HM.out.at_.not _ _ (e ▸ hcs)
      have hak : AtK wr kb kc ks := AtK.on HA.out (fun q hq => hcw.heap (AtK.lt HA.out q hq) (hne q hq)) hcw.size
      have hrow := (hak.2 (fun e => by rw [e] at hlt; simp at hlt)).1
      have hsz1 := szL_take ks k hlt
      have hsz2 := szL_le ks (k + 1) (by omega)
      have hsp := bL_split ks k hlt
      have hnd := HDN.out.2
      rw [hsp] at hnd
      have hdis : ∀ b ∈ bT ks[k], ¬ (D b ∨ b ∈ bL (ks.take k)) := fun b hb h => by
        rcases h with h | h
        · exact HDN.out.1 b (by rw [hsp]; simp [hb]) h
        · exact (List.nodup_append.1 hnd).2.2 b h b (by simp [hb]) rfl
      have hndk : (bT ks[k]).Nodup := (List.nodup_append.1 (List.nodup_append.1 hnd).2.1).1
      have HC := Lib.hid (hrow.cells5 k hlt)
      have hcall := HS.out ks[k] (List.getElem_mem _) Is Ka Fa Oa m tI tK tF tO wr E' _ _ (HE.out.chg HM.out.at_ hcw) hmet (by have := HNn.out; omega) (AtL.at_ hak.1 _ (List.getElem_mem _)) hdis hndk
      have HCl : Hid (Calls Tryz.prog 89 #[.agg (exC ks[k]).toArray, .pointer (some ⟨Oa, 0, none⟩)] wr fun e w' => e = .returned (.bool false) ∧ Chg m wr w' ∧ ∃ E', Met w' m E' (fun b => D b ∨ b ∈ bL (ks.take (k + 1))) (n + szL (ks.take (k + 1)))) := Lib.hid (hcall.mono fun e w' h => ⟨h.1, h.2.1, by
        obtain ⟨E'', h3⟩ := h.2.2
        refine ⟨E'', h3.wide ?_ (by omega)⟩
        intro b hb
        rw [bL_take ks k hlt]
        rcases hb with (hb | hb) | hb
        · exact .inl hb
        · exact .inr (by simp [hb])
        · exact .inr (by simp [hb])⟩)
      have HCw := Lib.hid hcw
      clear hcw hmet hne hak hrow hsz1 hsz2 hsp hnd hdis hndk hcall HB
      obtain ⟨tk, htk⟩ : ∃ t, t = ks[k] := ⟨_, rfl⟩
      rw [← htk] at HC HCl
      obtain ⟨t0, t1, t2, fA, fn, fc, kb', kc', ks'⟩ := tk
      clear htk
      obtain ⟨LA, LN, LC, hkv⟩ := kids_slice (kv := kidsV kb' kc' ks') rfl
      have hx : (exC (.mk t0 t1 t2 fA fn fc kb' kc' ks')).toArray = #[.int .i64 t0, .int .i64 t1, .string t2, .slice fA fn fc, .slice LA LN LC] := by simp only [exC]; rw [hkv]
      have hxc : exC (.mk t0 t1 t2 fA fn fc kb' kc' ks') = [.int .i64 t0, .int .i64 t1, .string t2, .slice fA fn fc, .slice LA LN LC] := by simp only [exC]; rw [hkv]
      rw [hx] at HCl
      rw [hxc] at HC
      clear hx hxc hkv
      have u0 := HC.out 0 _ rfl
      rw [Nat.add_zero] at u0
      have u1 := HC.out 1 _ rfl
      have u2 := HC.out 2 _ rfl
      have u3 := HC.out 3 _ rfl
      have u4 := HC.out 4 _ rfl
      clear HC
      go_wp2_with (go_at_call 89; refine HCl.out.mono ?_; rintro e w3 ⟨rfl, hc, hq⟩; refine Stop.out ?_)
      unfold Stop
      have HNx := Lib.hid (And.intro (Chg.trans HCw.out hc) hq)
      clear hc hq u0 u1 u2 u3 u4 HCl
      go_wp2
      exact ⟨⟨k + 1, by omega, by first | rfl | simp, HNx⟩, by simp [intOf]; omega⟩
    · obtain rfl : k = ks.length := by omega
      go_wp2
      go_ret
      refine ⟨rfl, HB.out.1, ?_⟩
      have := HB.out.2
      rw [List.take_length] at this
      exact this
theorem cf_step {kb kc : Nat} {ks : List Tr} (hs : ∀ t ∈ ks, NotC t) (hl : ks.length ≤ 256) : CfC kb kc ks := by
  intro Is Ka Fa Oa m tI tK tF tO w E D n hE hM hn hA hD hN
  have HI := Lib.hid (index_step hs hl Is Ka Fa Oa m tI tK tF tO w E D n hE hM hn hA hD hN)
  obtain ⟨Q, hQ⟩ : ∃ Q : World → Prop, Q = fun w' => ∃ E', Met w' m E' (fun b => D b ∨ b ∈ bL ks) (n + szL ks) := ⟨_, rfl⟩
  have HI2 : Hid (Calls Tryz.prog 106 #[kidsV kb kc ks, .func (.func 89) #[] #[.pointer (some ⟨Oa, 0, none⟩)]] w fun e w' => e = .returned (.int .i64 (-1)) ∧ Chg m w w' ∧ Q w') := Lib.hid (by rw [hQ]; exact HI.out)
  show Calls Tryz.prog 91 #[kidsV kb kc ks, .func (.func 89) #[] #[.pointer (some ⟨Oa, 0, none⟩)]] w fun e w' => e = .returned (.bool false) ∧ Chg m w w' ∧ (fun w' => ∃ E', Met w' m E' (fun b => D b ∨ b ∈ bL ks) (n + szL ks)) w'
  rw [← hQ]
  obtain ⟨KA, KN, KC, hkv⟩ := kids_slice (kv := kidsV kb kc ks) rfl
  rw [hkv] at HI2 ⊢
  clear HI hQ hs hl hE hM hn hA hD hN hkv
  go_enter Tryz.func91, Tryz.ntmps91
  go_wp2_with (go_at_call 106; refine HI2.out.mono ?_; rintro e wz ⟨rfl, hc, hq⟩; refine Stop.out ?_)
  unfold Stop
  have HFin := Lib.hid (And.intro hc hq)
  clear hc hq
  go_wp2
  go_ret
  exact ⟨rfl, HFin.out⟩
mutual
  /-- each part of a tree may be, but for its Kids -/
  def StandT : Tr → Prop | .mk t0 t1 t2 fA fn fc kb kc ks => ks.length ≤ 256 ∧ (∀ W, Calls Tryz.prog 67 #[.agg (exC (.mk t0 t1 t2 fA fn fc kb kc ks)).toArray] W fun e w' => e = .returned (.bool true) ∧ Below W.heap.size W w') ∧ StandL ks
  def StandL : List Tr → Prop | [] => True | t :: ts => StandT t ∧ StandL ts
end
mutual
  theorem over_all : ∀ t : Tr, StandT t → OverC t
    | .mk t0 t1 t2 fA fn fc kb kc ks, h => by
      unfold StandT at h
      exact over_step h.2.1 (cf_step (over_list ks h.2.2) h.1)
  theorem over_list : ∀ l : List Tr, StandL l → ∀ t ∈ l, NotC t
    | [], _, t, ht => by cases ht
    | a :: l, h, t, ht => by
      unfold StandL at h
      rcases List.mem_cons.1 ht with e | ht
      · rw [e]
        exact not_step _ (over_all a h.1)
      · exact over_list l h.2 t ht
end
end Go.Proofs.YtpapcnogbmjpjaaGreatDoor

namespace Go.Proofs.YtpapcnogbmjpjaaGreatDoor
open Go.RowKit
set_option maxRecDepth 100000
set_option linter.unusedSimpArgs false
set_option linter.unusedVariables false
attribute [local go_sem] Oper.semAt_some

/-- a builder holds these bytes -/
def Bd (B : Nat) (w : World) (b : Nat) (l : List UInt8) : Prop := Lib.IsBuilder 64 5 B b (Lib.byteCells l) w
theorem bld_info : (Tryz.prog.info? 64).map (·.size) = some 2 := by kernel_rfl
theorem bld_lies : liesAt Tryz.prog Tryz.prog.depth 64 (2 / Tryz.prog.cellsOf 64) 0 64 1 = true := by kernel_rfl
theorem factU : (Tryz.prog.info? 5).map (fun i => (i.zero, i.size, i.bytes)) = some (some (.int .u8 0), 1, 1) := by kernel_rfl
/-- what a write leaves as it is: all rows but those of bytes, and the builder -/
structure BK (b : Nat) (w w' : World) : Prop where
  os : w'.os = w.os
  tape : w'.tape = w.tape
  output : w'.output = w.output
  size : w.heap.size ≤ w'.heap.size
  keep : ∀ (k : Nat) (cs : Array Value) (T : TypeId) (fr : Nat × Nat), w.heap[k]? = some (.cells cs T fr) → T ≠ 5 → k ≠ b → w'.heap[k]? = some (.cells cs T fr)
theorem BK.of {b : Nat} {w w' : World} (h : Below w.heap.size w w') : BK b w w' := ⟨h.os, h.tape, h.output, h.size, fun _ _ _ _ hk _ _ => heap_on h hk⟩
theorem BK.trans {b : Nat} {a c d : World} (h : BK b a c) (k : BK b c d) : BK b a d := ⟨k.os.trans h.os, k.tape.trans h.tape, k.output.trans h.output, Nat.le_trans h.size k.size, fun q cs T fr hq h1 h2 => k.keep q cs T fr (h.keep q cs T fr hq h1 h2) h1 h2⟩
theorem code_cc_used (b : Nat) (w : World) (h0 : w.cell? ⟨b, 0, none⟩ = some (.pointer (some ⟨b, 0, none⟩))) : Calls Tryz.prog 43 #[.pointer (some ⟨b, 0, none⟩)] w fun e w' => e = .returned (.tuple #[]) ∧ w' = w := by
  obtain ⟨j, hj, _⟩ := Option.map_eq_some_iff.1 bld_info
  go_enter Tryz.func43, Tryz.ntmps43
  have hq := Lib.run_neq_ptr_same w ⟨b, 0, none⟩ Tryz.underlying61 hj
  go_wp2
  go_end0
  exact ⟨rfl, rfl⟩
theorem code_cc_fresh (b : Nat) (w : World) (h0 : w.cell? ⟨b, 0, none⟩ = some (.pointer none)) (hsh : w.shape? b = some (64, 2)) (hfz : w.frozen? ⟨b, 0, none⟩ = false) : Calls Tryz.prog 43 #[.pointer (some ⟨b, 0, none⟩)] w fun e w' => e = .returned (.tuple #[]) ∧ w' = w.setCell ⟨b, 0, none⟩ (.pointer (some ⟨b, 0, none⟩)) := by
  obtain ⟨j, hj, hjs⟩ := Option.map_eq_some_iff.1 bld_info
  have h1 : ∀ (W : World), W.shape? b = some (64, 2) → (convert 61 107 (.pointer (some ⟨b, 0, none⟩))).run Tryz.prog W = .ok (.pointer (some ⟨b, 0, none⟩)) W := fun W hs => Lib.run_to_unsafe W ⟨b, 0, none⟩ Tryz.underlying61 Tryz.underlying107 hj (by rw [hjs]; decide) hs (Nat.zero_lt_succ 1)
  have h2 : ∀ (W : World), W.shape? b = some (64, 2) → (convert 107 61 (.pointer (some ⟨b, 0, none⟩))).run Tryz.prog W = .ok (.pointer (some ⟨b, 0, none⟩)) W := fun W hs => Lib.run_from_unsafe W ⟨b, 0, none⟩ Tryz.underlying107 Tryz.underlying61 hj hs bld_lies
  have h3 : ∀ (W : World), (callFunc 68 #[.pointer (some ⟨b, 0, none⟩)]).run Tryz.prog W = .ok (.value (.pointer (some ⟨b, 0, none⟩))) W := fun W => by
    rw [run_callFunc_extern Tryz.func68 (by kernel_rfl) (by kernel_rfl) (by kernel_rfl) (e := Extern.AbiNoEscape.same) (by kernel_rfl), Lib.run_noEscape]
    rfl
  have h1w := h1 w hsh
  have h2w := h2 w hsh
  have h3w := h3 w
  clear h1 h2 h3
  go_enter Tryz.func43, Tryz.ntmps43
  go_wp2
  go_end0
  exact ⟨rfl, rfl⟩
theorem code_cc (B b : Nat) (bs : List Value) (w : World) (h : Lib.IsBuilder 64 5 B b bs w) : Calls Tryz.prog 43 #[.pointer (some ⟨b, 0, none⟩)] w fun e w' => e = .returned (.tuple #[]) ∧ Lib.BuilderAt 64 5 B b (.pointer (some ⟨b, 0, none⟩)) bs w' ∧ Below B w w' ∧ BK b w w' := by
  rcases h with h | h
  · refine (code_cc_fresh b w h.cell0 h.shape h.frozen0).mono ?_
    rintro e w' ⟨rfl, rfl⟩
    exact ⟨rfl, h.used _, (Below.refl B w).setCell (p := ⟨b, 0, none⟩) h.1 _, rfl, rfl, rfl, by rw [World.size_setCell]; exact Nat.le_refl _, fun k cs T fr hk _ hne => (heap_setCell_other w _ _ _ hne).trans hk⟩
  · refine (code_cc_used b w h.cell0).mono ?_
    rintro e w' ⟨rfl, rfl⟩
    exact ⟨rfl, h, Below.refl B _, BK.of (Below.refl _ _)⟩
theorem bcells_app (l : List UInt8) (s : ByteArray) : Lib.byteCells l ++ Lib.strCells s = Lib.byteCells (l ++ s.data.toList) := by simp [Lib.byteCells, Lib.strCells]
set_option maxHeartbeats 4000000 in
theorem code_ws (B b : Nat) (l : List UInt8) (s : ByteArray) (w : World) (h : Bd B w b l) (hlen : l.length + s.size ≤ 1000000) (hBw : B ≤ w.heap.size) :
    Calls Tryz.prog 23 #[.pointer (some ⟨b, 0, none⟩), .string s] w fun e w' => e = .returned (.tuple #[.int .i64 s.size, .nilIface]) ∧ Bd B w' b (l ++ s.data.toList) ∧ Below B w w' ∧ BK b w w' := by
  obtain ⟨i0, hi, hz0, hz1, hz2⟩ := info_parts factU
  have HC := Lib.hid (code_cc B b _ w h)
  have hl := Lib.byteCells_length l
  have HL : Hid ((Lib.byteCells l).length + s.size ≤ 1000000) := Lib.hid (by rw [hl]; exact hlen)
  clear h hlen hl
  go_enter Tryz.func23, Tryz.ntmps23
  go_wp2_with (go_at_call 43; refine HC.out.mono ?_; rintro e w1 ⟨rfl, h1, hb1, hk1⟩; refine Stop.out ?_)
  unfold Stop
  obtain ⟨hB, v, hbk, hown, hne⟩ := h1
  have HB1 := Lib.hid hb1
  have HK1 := Lib.hid hk1
  have HBk := Lib.hid hbk
  have HOw := Lib.hid hown
  have HNe := Lib.hid hne
  have HBb := Lib.hid hB
  have HBs : Hid (B ≤ w1.heap.size) := Lib.hid (by have := hb1.size; omega)
  obtain ⟨c0, c1⟩ := row2c hbk
  clear hbk hown hne hB hb1 hk1 HC
  go_wp2_with (at_builtin; refine Lib.wpList_append_own_string _ rfl _ _ 62 9 rfl B 5 i0 Tryz.underlying62 Tryz.underlying9 hi hz0 hz1 hz2 _ _ _ rfl HOw.out s rfl (by have := HL.out; unfold maxLen; omega) (by have := HL.out; omega) HBs.out ?_; intro v' w2 k1 k2 _; have HO := Lib.hid k1; have HG := Lib.hid k2; clear k1 k2; refine Stop.out ?_)
  unfold Stop
  clear c0 c1
  have HB2 := Lib.hid ((HG.out.block b (heapLt HBk.out) (fun e => HNe.out e.symm)).trans HBk.out)
  obtain ⟨ao, n', cap, rfl⟩ : ∃ ao n' cap, v' = .slice ao n' cap := by
    rcases HO.out.2 with ⟨hv, _⟩ | ⟨g, cap, cur, hv, _⟩
    · exact ⟨_, _, _, hv⟩
    · exact ⟨_, _, _, hv⟩
  obtain ⟨d0, d1⟩ := row2c HB2.out
  have f1 := frozen_of_row w2 b 1 _ _ HB2.out
  go_wp2
  go_ret2
  refine ⟨rfl, ?_, ?_, ?_⟩
  · have := Lib.BuilderAt.put (T := 64) (e := 5) HBb.out HB2.out (bs' := Lib.byteCells l ++ Lib.strCells s) (by simpa [Lib.strCells_length] using HO.out) (by decide)
    rw [bcells_app] at this
    exact .inr this
  · exact (HB1.out.grown HG.out HBs.out (fun k hk => (HOw.out.lt k hk).1)).setCell (p := ⟨b, 1, none⟩) HBb.out _
  · have k1 := HK1.out
    refine ⟨HG.out.os.trans k1.os, HG.out.tape.trans k1.tape, HG.out.output.trans k1.output, ?_, fun k cs T fr hk hT hkb => ?_⟩
    · rw [World.size_setCell]
      exact Nat.le_trans k1.size HG.out.size
    · have h1 := k1.keep k cs T fr hk hT hkb
      have h2 := (HG.out.block k (heapLt h1) (fun e => own_off HOw.out h1 hT e.symm)).trans h1
      exact (heap_setCell_other w2 _ _ _ hkb).trans h2
end Go.Proofs.YtpapcnogbmjpjaaGreatDoor
