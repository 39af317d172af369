/- Whether something is so of a tree and all in it. -/
import Derived.Test.YtpapcnogbmjpjaaGreatDoorK34
namespace Go.Proofs.YtpapcnogbmjpjaaGreatDoor
open Go.RowKit
set_option maxRecDepth 100000
set_option linter.unusedSimpArgs false
set_option linter.unusedVariables false
attribute [local go_sem] Oper.semAt_some

mutual
  def sz : Tr → Nat | .mk _ _ _ _ _ _ _ _ ks => 1 + szL ks
  def szL : List Tr → Nat | [] => 0 | t :: ts => sz t + szL ts
end
theorem szL_app : ∀ (a b : List Tr), szL (a ++ b) = szL a + szL b
  | [], b => by simp [szL]
  | t :: a, b => by
    show sz t + szL (a ++ b) = sz t + szL a + szL b
    rw [szL_app a b]
    omega
theorem szL_take (l : List Tr) (k : Nat) (h : k < l.length) : szL (l.take (k + 1)) = szL (l.take k) + sz l[k] := by
  rw [List.take_succ_eq_append_getElem h, szL_app]
  simp [szL]
theorem szL_le (l : List Tr) (k : Nat) (h : k ≤ l.length) : szL (l.take k) ≤ szL l := by
  have := szL_app (l.take k) (l.drop k)
  rw [List.take_append_drop] at this
  omega
/-- where what is asked, and what is known, lie -/
structure EnvO (w : World) (Is Ka Fa Oa m : Nat) (tI tK tF tO : TypeId) : Prop where
  hI : w.heap[Is]? = some (.cells #[.func (.func 67) #[] #[]] tI (0, 0))
  hK : w.heap[Ka]? = some (.cells #[.map (some m)] tK (0, 0))
  hF : w.heap[Fa]? = some (.cells #[.func (.func 89) #[] #[.pointer (some ⟨Oa, 0, none⟩)]] tF (0, 0))
  hO : w.heap[Oa]? = some (.cells #[.func (.func 90) #[] #[.pointer (some ⟨Is, 0, none⟩), .pointer (some ⟨Ka, 0, none⟩), .pointer (some ⟨Fa, 0, none⟩)]] tO (0, 0))
theorem EnvO.chg {w w' : World} {Is Ka Fa Oa m : Nat} {tI tK tF tO : TypeId} {E : List (Key × Int)} (h : EnvO w Is Ka Fa Oa m tI tK tF tO) (hm : MapAt w m E) (hc : Chg m w w') : EnvO w' Is Ka Fa Oa m tI tK tF tO := by
  have ne : ∀ {g : Nat} {cs : Array Value} {T : TypeId}, w.heap[g]? = some (.cells cs T (0, 0)) → g ≠ m := fun hg e => hm.not _ _ (e ▸ hg)
  exact ⟨(hc.heap (heapLt h.hI) (ne h.hI)).trans h.hI, (hc.heap (heapLt h.hK) (ne h.hK)).trans h.hK, (hc.heap (heapLt h.hF) (ne h.hF)).trans h.hF, (hc.heap (heapLt h.hO) (ne h.hO)).trans h.hO⟩
/-- which lists were met -/
structure Met (w : World) (m : Nat) (E : List (Key × Int)) (D : Nat → Prop) (n : Nat) : Prop where
  at_ : MapAt w m E
  zero : 0 ≤ (valL ((none, 0) : Key) E).getD 0 ∧ (valL ((none, 0) : Key) E).getD 0 ≤ n
  keys : ∀ p ∈ E, p.1 = ((none, 0) : Key) ∨ ∃ b l, D b ∧ p.1 = (some (b, 0), l)
theorem Met.on {w w' : World} {m : Nat} {E : List (Key × Int)} {D : Nat → Prop} {n : Nat} (h : Met w m E D n) (hb : Below w.heap.size w w') : Met w' m E D n := ⟨h.at_.on hb, h.zero, h.keys⟩
theorem Met.wide {w : World} {m : Nat} {E : List (Key × Int)} {D D' : Nat → Prop} {n n' : Nat} (h : Met w m E D n) (hD : ∀ b, D b → D' b) (hn : n ≤ n') : Met w m E D' n' :=
  ⟨h.at_, ⟨h.zero.1, by have := h.zero.2; omega⟩, fun p hp => (h.keys p hp).imp id (fun ⟨b, l, h1, h2⟩ => ⟨b, l, hD b h1, h2⟩)⟩
theorem Met.fresh {w : World} {m : Nat} {E : List (Key × Int)} {D : Nat → Prop} {n kb : Nat} {ks : List Tr} (h : Met w m E D n) (hD : ¬ D kb) (hk : ks ≠ []) : (valL (keyOf kb ks) E).getD 0 = 0 := by
  cases hv : valL (keyOf kb ks) E with
  | none => rfl
  | some d =>
    obtain ⟨p, h1, h2, h3⟩ := valL_mem hv
    cases ks with
    | nil => exact absurd rfl hk
    | cons t ts =>
      rcases h.keys p h1 with e | ⟨b, l, hb, e⟩
      · rw [h2] at e; cases e
      · rw [h2] at e
        obtain rfl : kb = b := by
          have := congrArg Prod.fst e
          simpa [keyOf] using this
        exact absurd hb hD
mutual
  theorem AtT.typed {w : World} : ∀ (t : Tr), AtT w t → ∀ q ∈ bT t, ∃ cs, w.heap[q]? = some (Obj.cells cs 32 (0, 0))
    | .mk _ _ _ _ _ _ kb kc ks, h, q, hq => by
      unfold AtT at h
      unfold bT at hq
      cases ks with
      | nil => simp [bK] at hq
      | cons a l =>
        rcases List.mem_cons.1 hq with rfl | hq
        · obtain ⟨⟨cs, h1, _⟩, _⟩ := h.2 (by simp)
          exact ⟨cs, h1⟩
        · exact AtL.typed _ h.1 q hq
  theorem AtL.typed {w : World} : ∀ (l : List Tr), AtL w l → ∀ q ∈ bL l, ∃ cs, w.heap[q]? = some (Obj.cells cs 32 (0, 0))
    | [], _, q, hq => by simp [bL] at hq
    | t :: ts, h, q, hq => by
      unfold AtL at h
      unfold bL at hq
      rcases List.mem_append.1 hq with hq | hq
      · exact AtT.typed t h.1 q hq
      · exact AtL.typed ts h.2 q hq
end
theorem AtK.typed {w : World} {kb kc : Nat} {ks : List Tr} (h : AtK w kb kc ks) : ∀ q ∈ bKs kb ks, ∃ cs, w.heap[q]? = some (Obj.cells cs 32 (0, 0)) := fun q hq => by
  cases ks with
  | nil => simp [bKs, bK] at hq
  | cons a l =>
    unfold bKs at hq
    rcases List.mem_cons.1 hq with rfl | hq
    · obtain ⟨⟨cs, h1, _⟩, _⟩ := h.2 (by simp)
      exact ⟨cs, h1⟩
    · exact AtL.typed _ h.1 q hq
def OverC (t : Tr) : Prop := ∀ (Is Ka Fa Oa m : Nat) (tI tK tF tO : TypeId) (w : World) (E : List (Key × Int)) (D : Nat → Prop) (n : Nat), EnvO w Is Ka Fa Oa m tI tK tF tO → Met w m E D n → n + sz t ≤ 1000 → AtT w t → (∀ b ∈ bT t, ¬ D b) → (bT t).Nodup →
  Calls Tryz.prog 90 #[.agg (exC t).toArray, .pointer (some ⟨Is, 0, none⟩), .pointer (some ⟨Ka, 0, none⟩), .pointer (some ⟨Fa, 0, none⟩)] w fun e w' => e = .returned (.bool true) ∧ Chg m w w' ∧ ∃ E', Met w' m E' (fun b => D b ∨ b ∈ bT t) (n + sz t)
def CfC (kb kc : Nat) (ks : List Tr) : Prop := ∀ (Is Ka Fa Oa m : Nat) (tI tK tF tO : TypeId) (w : World) (E : List (Key × Int)) (D : Nat → Prop) (n : Nat), EnvO w Is Ka Fa Oa m tI tK tF tO → Met w m E D n → n + szL ks ≤ 1000 → AtK w kb kc ks → (∀ b ∈ bL ks, ¬ D b) → (bL ks).Nodup →
  Calls Tryz.prog 91 #[kidsV kb kc ks, .func (.func 89) #[] #[.pointer (some ⟨Oa, 0, none⟩)]] w fun e w' => e = .returned (.bool false) ∧ Chg m w w' ∧ ∃ E', Met w' m E' (fun b => D b ∨ b ∈ bL ks) (n + szL ks)
set_option maxHeartbeats 8000000 in
theorem over_step {t0 t1 : Int} {t2 : ByteArray} {fA : Option Addr} {fn fc kb kc : Nat} {ks : List Tr} (hIs : ∀ W, Calls Tryz.prog 67 #[.agg (exC (.mk t0 t1 t2 fA fn fc kb kc ks)).toArray] W fun e w' => e = .returned (.bool true) ∧ Below W.heap.size W w') (hCf : CfC kb kc ks) : OverC (.mk t0 t1 t2 fA fn fc kb kc ks) := by
  intro Is Ka Fa Oa m tI tK tF tO w E D n hE hM hn hA hD hN
  obtain ⟨KA, KN, KC, hkv⟩ := kids_slice (kv := kidsV kb kc ks) rfl
  have hx : (exC (.mk t0 t1 t2 fA fn fc kb kc ks)).toArray = #[.int .i64 t0, .int .i64 t1, .string t2, .slice fA fn fc, .slice KA KN KC] := by simp only [exC]; rw [hkv]
  rw [hx] at hIs ⊢
  unfold AtT at hA
  have HAk : Hid (AtK w kb kc ks) := Lib.hid ⟨hA.1, hA.2⟩
  have HLo := Lib.hid (fun W => code_listOf kb kc ks (AtK.len HAk.out) W)
  rw [hkv] at HLo
  obtain ⟨k, hk⟩ : ∃ k, k = keyOf kb ks := ⟨_, rfl⟩
  rw [← hk] at HLo
  obtain ⟨pp, kn, hkk⟩ : ∃ pp kn, kV k = .agg #[.pointer pp, .int .i64 kn] := ⟨_, _, rfl⟩
  have HPk : Hid (PlainK w k) := Lib.hid (hk ▸ AtK.plain HAk.out)
  obtain ⟨v, hv⟩ : ∃ v, (valL k E).getD 0 = v := ⟨_, rfl⟩
  have hbT : bT (.mk t0 t1 t2 fA fn fc kb kc ks) = bK kb ks (bL ks) := rfl
  rw [hbT] at hD hN
  have hszT : sz (.mk t0 t1 t2 fA fn fc kb kc ks) = 1 + szL ks := rfl
  rw [hszT] at hn
  have hvb : 0 ≤ v ∧ v ≤ n ∧ (ks ≠ [] → v = 0) := by
    by_cases hks : ks = []
    · have : k = ((none, 0) : Key) := by rw [hk, hks]; rfl
      rw [this] at hv
      exact ⟨by rw [← hv]; exact hM.zero.1, by rw [← hv]; exact hM.zero.2, fun h => absurd hks h⟩
    · have h0 : v = 0 := by
        rw [← hv, hk]
        exact hM.fresh (hD kb (by cases ks with | nil => exact absurd rfl hks | cons a b => simp [bK])) hks
      exact ⟨by omega, by omega, fun _ => h0⟩
  have HVz : Hid (v = 0 ∨ (0 < v ∧ ks = [])) := Lib.hid (by
    by_cases h0 : v = 0
    · exact .inl h0
    · exact .inr ⟨by have := hvb.1; omega, by
        by_cases hks : ks = []
        · exact hks
        · exact absurd (hvb.2.2 hks) h0⟩)
  obtain ⟨E1, hE1⟩ : ∃ E1, E1 = putL k v E := ⟨_, rfl⟩
  obtain ⟨E2, hE2⟩ : ∃ E2, E2 = putL k (v + 1) E1 := ⟨_, rfl⟩
  have hv1 : (valL k E1).getD 0 = v := by rw [hE1, valL_put]; rfl
  have hv2 : (valL k E2).getD 0 = v + 1 := by rw [hE2, valL_put]; rfl
  obtain ⟨i0, hi0⟩ : ∃ i0, i0 = ((findL k 0 E).map (·.1)).getD E.length := ⟨_, rfl⟩
  have hf1 : findL k 0 E1 = some (i0, v) := by rw [hE1, findL_put, hi0, Nat.zero_add]
  obtain ⟨gi, hgi⟩ : ∃ gi, gi = goInt ((i0 : Nat) : Int) := ⟨_, rfl⟩
  have HLkE : Hid (∀ W, MapAt W m E → PlainK W k → (Instr.lookup 117 (.map (some m)) (.agg #[.pointer pp, .int .i64 kn]) false).run Tryz.prog W = .ok (.int .i64 v) W) := Lib.hid (fun W h1 h2 => by rw [← hkk, run_look1 W m k h2 E h1, hv])
  have HLkE1 : Hid (∀ W, MapAt W m E1 → PlainK W k → (Instr.lookup 117 (.map (some m)) (.agg #[.pointer pp, .int .i64 kn]) false).run Tryz.prog W = .ok (.int .i64 v) W) := Lib.hid (fun W h1 h2 => by rw [← hkk, run_look1 W m k h2 E1 h1, hv1])
  have HLkE2 : Hid (∀ W, MapAt W m E2 → PlainK W k → (Instr.lookup 117 (.map (some m)) (.agg #[.pointer pp, .int .i64 kn]) false).run Tryz.prog W = .ok (.int .i64 (v + 1)) W) := Lib.hid (fun W h1 h2 => by rw [← hkk, run_look1 W m k h2 E2 h1, hv2])
  have HEn : Hid (∀ W, MapAt W m E → PlainK W k → (Instr.mapEntry 117 (.map (some m)) (.agg #[.pointer pp, .int .i64 kn])).run Tryz.prog W = .ok (.tuple #[.int .i64 v, gi]) (putW W m E1)) := Lib.hid (fun W h1 h2 => by rw [← hkk, run_entry W m k h2 E h1, hv, hgi, hi0, hE1]; rfl)
  have HSt : Hid (∀ W, MapAt W m E1 → (Instr.entryStore 117 (.map (some m)) gi (.int .i64 (v + 1))).run Tryz.prog W = .ok () (putW W m E2)) := Lib.hid (fun W h1 => by rw [hgi, run_store W m k (v + 1) E1 h1 i0 v hf1, hE2]; rfl)
  have HPut1 : Hid (∀ W, MapAt W m E → PlainK W k → MapAt (putW W m E1) m E1) := Lib.hid (fun W h1 h2 => by rw [hE1]; exact h1.put h2 v)
  have HPut2 : Hid (∀ W, MapAt W m E1 → PlainK W k → MapAt (putW W m E2) m E2) := Lib.hid (fun W h1 h2 => by rw [hE2]; exact h1.put h2 (v + 1))
  have HMet : Hid (∀ W, MapAt W m E2 → Met W m E2 (fun b => D b ∨ (ks ≠ [] ∧ b = kb)) (n + 1)) := Lib.hid (fun W h1 => by
    refine ⟨h1, ?_, ?_⟩
    · by_cases hks : ks = []
      · have e : k = ((none, 0) : Key) := by rw [hk, hks]; rfl
        rw [← e, hv2]
        have := hvb
        omega
      · have e : ((none, 0) : Key) ≠ k := by
          rw [hk]
          intro e
          exact hks (keyOf_nil e.symm)
        rw [hE2, valL_other e, hE1, valL_other e]
        have := hM.zero
        omega
    · intro p hp
      have hk2 : k = ((none, 0) : Key) ∨ ∃ b l, (D b ∨ (ks ≠ [] ∧ b = kb)) ∧ k = (some (b, 0), l) := by
        rw [hk]
        cases ks with
        | nil => exact .inl rfl
        | cons a b => exact .inr ⟨kb, _, .inr ⟨by simp, rfl⟩, rfl⟩
      rw [hE2] at hp
      rcases mem_putL hp with hp | rfl
      · rw [hE1] at hp
        rcases mem_putL hp with hp | rfl
        · exact (hM.keys p hp).imp id (fun ⟨b, l, h1, h2⟩ => ⟨b, l, .inl h1, h2⟩)
        · exact hk2
      · exact hk2)
  have HCF : Hid (∀ W, Chg m w W → Met W m E2 (fun b => D b ∨ (ks ≠ [] ∧ b = kb)) (n + 1) → Calls Tryz.prog 91 #[.slice KA KN KC, .func (.func 89) #[] #[.pointer (some ⟨Oa, 0, none⟩)]] W fun e w' => e = .returned (.bool false) ∧ Chg m W w' ∧ ∃ E', Met w' m E' (fun b => D b ∨ b ∈ bT (.mk t0 t1 t2 fA fn fc kb kc ks)) (n + sz (.mk t0 t1 t2 fA fn fc kb kc ks))) := Lib.hid (fun W hW hMW => by
    have hkb : ∀ b ∈ bL ks, ¬ D b ∧ b ≠ kb := fun b hb => by
      cases ks with
      | nil => cases hb
      | cons a q =>
        refine ⟨hD b (List.mem_cons_of_mem _ hb), fun e => ?_⟩
        have := (List.nodup_cons.1 hN).1
        exact this (e ▸ hb)
    have hnd : (bL ks).Nodup := by
      cases ks with
      | nil => exact List.nodup_nil
      | cons a q => exact (List.nodup_cons.1 hN).2
    have hak : AtK W kb kc ks := AtK.on HAk.out (fun q hq => hW.heap (AtK.lt HAk.out q hq) (fun e => by
      obtain ⟨cs, hcs⟩ := AtK.typed HAk.out q hq
      exact hM.at_.not _ _ (e ▸ hcs))) hW.size
    have := hCf Is Ka Fa Oa m tI tK tF tO W E2 (fun b => D b ∨ (ks ≠ [] ∧ b = kb)) (n + 1) (hE.chg hM.at_ hW) hMW (by omega) hak (fun b hb h => by rcases h with h | h; exact (hkb b hb).1 h; exact (hkb b hb).2 h.2) hnd
    rw [hkv] at this
    refine this.mono ?_
    rintro e w' ⟨h1, h2, E', h3⟩
    refine ⟨h1, h2, E', h3.wide ?_ (by rw [hszT]; omega)⟩
    intro b hb
    rw [hbT]
    rcases hb with (hb | hb) | hb
    · exact .inl hb
    · cases ks with
      | nil => exact absurd rfl hb.1
      | cons a q => exact .inr (by rw [hb.2]; exact List.mem_cons_self)
    · cases ks with
      | nil => cases hb
      | cons a q => exact .inr (List.mem_cons_of_mem _ hb))
  have HEnd : Hid (ks = [] → ∀ W, Met W m E2 (fun b => D b ∨ (ks ≠ [] ∧ b = kb)) (n + 1) → ∃ E', Met W m E' (fun b => D b ∨ b ∈ bT (.mk t0 t1 t2 fA fn fc kb kc ks)) (n + sz (.mk t0 t1 t2 fA fn fc kb kc ks))) := Lib.hid (fun hks W hMW => by
    refine ⟨E2, hMW.wide ?_ (by rw [hszT]; omega)⟩
    intro b hb
    rcases hb with hb | hb
    · exact .inl hb
    · exact absurd hks hb.1)
  have HIs := Lib.hid hIs
  have HEn2 := Lib.hid hE
  have HM0w := Lib.hid hM.at_
  have hbv : 0 ≤ v ∧ v ≤ 1000 := ⟨hvb.1, by have := hvb.2.1; omega⟩
  have hw1 : IntKind.i64.wrap (v + 1) = v + 1 := by have := hbv; rw [IntKind.wrap_i64]; omega
  have hnot : ∀ (x : Bool) (w : World), (Op.unary .not (.bool x)).run Tryz.prog w = .ok (.bool (!x)) w := fun _ _ => rfl
  have H0 := Lib.hid (heap_alloc_new w (.cells #[.int .i64 t0, .int .i64 t1, .string t2, .slice fA fn fc, .slice KA KN KC] 32))
  have HB0 := Lib.hid (below_alloc w (.cells #[.int .i64 t0, .int .i64 t1, .string t2, .slice fA fn fc, .slice KA KN KC] 32))
  obtain ⟨i0, _⟩ := one_cell (heap_on HB0.out hE.hI)
  clear hIs hE hM hn hA hD hN hx hbT hszT hvb hv hv1 hv2 hf1 hi0 hgi hE1 hE2 hk hkv hbv
  go_enter Tryz.func90, Tryz.ntmps90
  go_wp2_with (go_at_call 67; refine (HIs.out _).mono ?_; rintro e w2 ⟨rfl, hb⟩; refine Stop.out ?_)
  unfold Stop
  have HB2 := Lib.hid (below_then HB0.out hb)
  have H2 := Lib.hid (heap_on hb H0.out)
  obtain ⟨g, hg⟩ : ∃ g, g = w.heap.size := ⟨_, rfl⟩
  rw [← hg] at H2 ⊢
  clear hg hb i0 H0 HB0
  obtain ⟨e0, e1, e2, e3, e4⟩ := row5c H2.out
  go_wp2_with (go_at_call 88; refine (HLo.out _).mono ?_; rintro e w3 ⟨rfl, hb⟩; refine Stop.out ?_)
  unfold Stop
  have HB3 := Lib.hid (below_then HB2.out hb)
  have H3 := Lib.hid (heap_on hb H2.out)
  clear e0 e1 e2 e3 e4 hb H2 HB2 HLo
  have HN := Lib.hid (heap_alloc_new w3 (.cells #[.pointer none, .int .i64 0] 122))
  have HBF := Lib.hid (box_row w3 #[.pointer none, .int .i64 0] #[.pointer pp, .int .i64 kn] 122 rfl)
  (try rw [hkk])
  go_wp2_with ((with_reducible refine wpList_store_row (o := ⟨none, _, _, _, _, _⟩) 122 ?b0 (.tmp 6) (.tmp 13) ?b1 w3.heap.size ?b2 [.pointer pp, .int .i64 kn] ?b3 ?b4 ?b5 #[.pointer none, .int .i64 0] ?b6 122 ?b7 ?_); (case b0 => rfl); (case b1 => rfl); (case b2 => rfl); (case b3 => exact list_info); (case b4 => simp [Value.oneCell']); (case b5 => rfl); (case b6 => rfl); (case b7 => exact HN.out); (try simp only [Act.put]); refine Stop.out ?_)
  unfold Stop
  clear HN
  generalize World.setRow _ _ _ = w4 at HBF ⊢
  have HB4 := Lib.hid (below_then HB3.out HBF.out.1)
  have H4 := Lib.hid (heap_on HBF.out.1 H3.out)
  obtain ⟨gl, hgl⟩ : ∃ g, g = w3.heap.size := ⟨_, rfl⟩
  rw [← hgl] at HBF ⊢
  clear hgl H3 HB3
  go_wp2
  have HBd := Lib.hid (below_then HB4.out (below_drew w4))
  have HM0 := Lib.hid (HM0w.out.on HBd.out)
  have HP0 := Lib.hid (HPk.out.on HBd.out)
  refine wp_region_held_drew (S := fun V : World => V.heap[Ka]? = some (.cells #[.map (some m)] tK (0, 0)) ∧ V.heap[gl]? = some (.cells #[.pointer pp, .int .i64 kn] 122 (0, 0))) (by kernel_rfl) ⟨heap_on HBd.out HEn2.out.hK, heap_on (below_drew w4) HBF.out.2⟩ ?_
  intro hHeld
  have HW := Lib.hid (Chg.of (R := m) HBd.out)
  have HFd := Lib.hid (heap_on HBd.out HEn2.out.hF)
  have HKm : Hid (Ka ≠ m) := Lib.hid (fun e => HM0.out.not _ _ (e ▸ hHeld.1))
  have HLm : Hid (gl ≠ m) := Lib.hid (fun e => HM0.out.not _ _ (e ▸ hHeld.2))
  have HL4 := Lib.hid (heap_on (below_drew w4) H4.out)
  have HFm : Hid (Fa ≠ m) := Lib.hid (fun e => HM0.out.not _ _ (e ▸ HFd.out))
  have Hgm : Hid (g ≠ m) := Lib.hid (fun e => HM0.out.not _ _ (e ▸ HL4.out))
  have HC0 := Lib.hid (Chg.refl m w4.drew)
  clear H4 HBF HB4 HBd HM0w HPk HIs
  generalize w4.drew = wd at hHeld HC0 HM0 HP0 HL4 HW HFd ⊢
  (refine takeH (i := 0) (v := ?_) rfl (by kernel_rfl) (by kernel_rfl) (by kernel_rfl) (fun _ _ _ h => h) (Or.inl ⟨by rfl, ?_⟩) (by assumption) ?_; rotate_left; (focus ((intro wS hSw); (try dsimp only at hSw); obtain ⟨s0, _⟩ := one_cell hSw.1; go_simp; (try with_reducible rfl); done)); (try simp only [Act.put, List.setIfInBounds_toArray, List.set_cons_zero, List.set_cons_succ]))
  (refine takeH (i := 1) (v := (.agg #[.pointer pp, .int .i64 kn])) rfl (by kernel_rfl) (by kernel_rfl) (by kernel_rfl) (fun _ _ _ h => h) (yieldsIf_load_rowE (by rfl) 122 (.tmp 6) rfl gl rfl 122 #[.pointer pp, .int .i64 kn] (0, 0) _ (fun W h => h.2) Tryz.underlying122 rfl list_info) (by assumption) ?_; (try simp only [Act.put, List.setIfInBounds_toArray, List.set_cons_zero, List.set_cons_succ]))
  refine twoH (i := 2) (i2 := 4) rfl rfl (by kernel_rfl) (fun K hK => ?_) (fun K hK => ?_)
  · rw [if_pos (by rfl)]
    have hlk := HLkE.out wd HM0.out HP0.out
    go_simp
    clear hlk
    refine hK.out _ _ (hHeld) (fun hNew => ?_)
    clear hK K hHeld; (have hHeld := hNew); clear hNew; (try simp only [Act.put, List.setIfInBounds_toArray, List.set_cons_zero, List.set_cons_succ])
    (refine takeH (i := 3) (v := ?_) rfl (by kernel_rfl) (by kernel_rfl) (by kernel_rfl) (fun _ _ _ h => h) (Or.inl ⟨by rfl, ?_⟩) (by assumption) ?_; rotate_left; (focus ((intro wS hSw); (try dsimp only at hSw); obtain ⟨s0, _⟩ := one_cell hSw.1; go_simp; (try with_reducible rfl); done)); (try simp only [Act.put, List.setIfInBounds_toArray, List.set_cons_zero, List.set_cons_succ]))
    refine aloneH (i := 4) rfl (by kernel_rfl) (fun K hK => ?_)
    rw [if_pos (by rfl)]
    have hen := HEn.out wd HM0.out HP0.out
    have hk1 := ((putW_chg wd m E1).heap (heapLt hHeld.1) HKm.out).trans hHeld.1
    have hk2 := ((putW_chg wd m E1).heap (heapLt hHeld.2) HLm.out).trans hHeld.2
    have HM2 : Hid (MapAt (putW wd m E1) m E1) := Lib.hid (HPut1.out wd HM0.out HP0.out)
    have HP2 : Hid (PlainK (putW wd m E1) k) := Lib.hid (PlainK.keeps HM0.out.not (putW_chg wd m E1) HP0.out)
    have HC2 := Lib.hid (Chg.trans HC0.out (putW_chg wd m E1))
    go_simp
    clear hen
    generalize putW wd m E1 = w2 at hk1 hk2 HM2 HP2 HC2 ⊢
    refine hK.out _ _ (⟨hk1, hk2⟩) (fun hNew => ?_)
    clear hK K hHeld; (have hHeld := hNew); clear hNew; (try simp only [Act.put, List.setIfInBounds_toArray, List.set_cons_zero, List.set_cons_succ])
    (refine takeH (i := 5) (v := ?_) rfl (by kernel_rfl) (by kernel_rfl) (by kernel_rfl) (fun _ _ _ h => h) (Or.inl ⟨by rfl, ?_⟩) (by assumption) ?_; rotate_left; (focus ((intro wS hSw); (try dsimp only at hSw); obtain ⟨s0, _⟩ := one_cell hSw.1; go_simp; (try with_reducible rfl); done)); (try simp only [Act.put, List.setIfInBounds_toArray, List.set_cons_zero, List.set_cons_succ]))
    refine aloneH (i := 6) rfl (by kernel_rfl) (fun K hK => ?_)
    rw [if_pos (by rfl)]
    have hen := HSt.out w2 HM2.out
    have hk1 := ((putW_chg w2 m E2).heap (heapLt hHeld.1) HKm.out).trans hHeld.1
    have hk2 := ((putW_chg w2 m E2).heap (heapLt hHeld.2) HLm.out).trans hHeld.2
    have HM3 : Hid (MapAt (putW w2 m E2) m E2) := Lib.hid (HPut2.out w2 HM2.out HP2.out)
    have HP3 : Hid (PlainK (putW w2 m E2) k) := Lib.hid (PlainK.keeps HM2.out.not (putW_chg w2 m E2) HP2.out)
    have HC3 := Lib.hid (Chg.trans HC2.out (putW_chg w2 m E2))
    go_simp
    clear hen
    generalize putW w2 m E2 = w3 at hk1 hk2 HM3 HP3 HC3 ⊢
    refine hK.out _ _ (⟨hk1, hk2⟩) (fun hNew => ?_)
    clear hK K hHeld; (have hHeld := hNew); clear hNew; (try simp only [Act.put])
    refine wpAnyH_done (by kernel_rfl) ?_ _
    have hMf := HLkE2.out w3 HM3.out HP3.out
    obtain ⟨k0, _⟩ := one_cell hHeld.1
    obtain ⟨l0, l1⟩ := row2c hHeld.2
    have HCl := Lib.hid HC3.out
    have HMl := Lib.hid HM3.out
    obtain ⟨f0, _⟩ := one_cell ((HCl.out.heap (heapLt HFd.out) HFm.out).trans HFd.out)
    obtain ⟨e0, e1, e2, e3, e4⟩ := row5c ((HCl.out.heap (heapLt HL4.out) Hgm.out).trans HL4.out)
    have HWc := Lib.hid (Chg.trans HW.out HCl.out)
    have HMt := Lib.hid (HMet.out w3 HMl.out)
    clear hHeld HPut1 HPut2 HLkE HLkE1 HLkE2 HEn HSt hw1
    rcases HVz.out with hv0 | ⟨hv1, hks⟩
    · subst hv0
      have HCf := Lib.hid (HCF.out w3 HWc.out HMt.out)
      go_wp2_with (go_at_call 91; refine HCf.out.mono ?_; rintro e wz ⟨rfl, hc, hm⟩; refine Stop.out ?_)
      unfold Stop
      have HFin := Lib.hid (And.intro (Chg.trans HWc.out hc) hm)
      clear k0 l0 l1 f0 e0 e1 e2 e3 e4 hMf hc hm
      go_wp2
      go_ret
      exact ⟨rfl, HFin.out⟩
    · have HFin := Lib.hid (And.intro HWc.out (HEnd.out hks w3 HMt.out))
      have hv2 : (1 : Int) < v + 1 := by omega
      clear hv1 hks
      go_wp2
      go_ret
      exact ⟨rfl, HFin.out⟩
  · rw [if_pos (by rfl)]
    have hen := HEn.out wd HM0.out HP0.out
    have hk1 := ((putW_chg wd m E1).heap (heapLt hHeld.1) HKm.out).trans hHeld.1
    have hk2 := ((putW_chg wd m E1).heap (heapLt hHeld.2) HLm.out).trans hHeld.2
    have HM1 : Hid (MapAt (putW wd m E1) m E1) := Lib.hid (HPut1.out wd HM0.out HP0.out)
    have HP1 : Hid (PlainK (putW wd m E1) k) := Lib.hid (PlainK.keeps HM0.out.not (putW_chg wd m E1) HP0.out)
    have HC1 := Lib.hid (Chg.trans HC0.out (putW_chg wd m E1))
    go_simp
    clear hen
    generalize putW wd m E1 = w1 at hk1 hk2 HM1 HP1 HC1 ⊢
    refine hK.out _ _ (⟨hk1, hk2⟩) (fun hNew => ?_)
    clear hK K hHeld; (have hHeld := hNew); clear hNew; (try simp only [Act.put, List.setIfInBounds_toArray, List.set_cons_zero, List.set_cons_succ])
    (refine takeH (i := 5) (v := ?_) rfl (by kernel_rfl) (by kernel_rfl) (by kernel_rfl) (fun _ _ _ h => h) (Or.inl ⟨by rfl, ?_⟩) (by assumption) ?_; rotate_left; (focus ((intro wS hSw); (try dsimp only at hSw); obtain ⟨s0, _⟩ := one_cell hSw.1; go_simp; (try with_reducible rfl); done)); (try simp only [Act.put, List.setIfInBounds_toArray, List.set_cons_zero, List.set_cons_succ]))
    refine aloneH (i := 2) rfl (by kernel_rfl) (fun K hK => ?_)
    rw [if_pos (by rfl)]
    have hlk := HLkE1.out w1 HM1.out HP1.out
    go_simp
    clear hlk
    refine hK.out _ _ (hHeld) (fun hNew => ?_)
    clear hK K hHeld; (have hHeld := hNew); clear hNew; (try simp only [Act.put, List.setIfInBounds_toArray, List.set_cons_zero, List.set_cons_succ])
    (refine takeH (i := 3) (v := ?_) rfl (by kernel_rfl) (by kernel_rfl) (by kernel_rfl) (fun _ _ _ h => h) (Or.inl ⟨by rfl, ?_⟩) (by assumption) ?_; rotate_left; (focus ((intro wS hSw); (try dsimp only at hSw); obtain ⟨s0, _⟩ := one_cell hSw.1; go_simp; (try with_reducible rfl); done)); (try simp only [Act.put, List.setIfInBounds_toArray, List.set_cons_zero, List.set_cons_succ]))
    refine aloneH (i := 6) rfl (by kernel_rfl) (fun K hK => ?_)
    rw [if_pos (by rfl)]
    have hen := HSt.out w1 HM1.out
    have hk1 := ((putW_chg w1 m E2).heap (heapLt hHeld.1) HKm.out).trans hHeld.1
    have hk2 := ((putW_chg w1 m E2).heap (heapLt hHeld.2) HLm.out).trans hHeld.2
    have HM3 : Hid (MapAt (putW w1 m E2) m E2) := Lib.hid (HPut2.out w1 HM1.out HP1.out)
    have HP3 : Hid (PlainK (putW w1 m E2) k) := Lib.hid (PlainK.keeps HM1.out.not (putW_chg w1 m E2) HP1.out)
    have HC3 := Lib.hid (Chg.trans HC1.out (putW_chg w1 m E2))
    go_simp
    clear hen
    generalize putW w1 m E2 = w3 at hk1 hk2 HM3 HP3 HC3 ⊢
    refine hK.out _ _ (⟨hk1, hk2⟩) (fun hNew => ?_)
    clear hK K hHeld; (have hHeld := hNew); clear hNew; (try simp only [Act.put])
    refine wpAnyH_done (by kernel_rfl) ?_ _
    have hMf := HLkE2.out w3 HM3.out HP3.out
    obtain ⟨k0, _⟩ := one_cell hHeld.1
    obtain ⟨l0, l1⟩ := row2c hHeld.2
    have HCl := Lib.hid HC3.out
    have HMl := Lib.hid HM3.out
    obtain ⟨f0, _⟩ := one_cell ((HCl.out.heap (heapLt HFd.out) HFm.out).trans HFd.out)
    obtain ⟨e0, e1, e2, e3, e4⟩ := row5c ((HCl.out.heap (heapLt HL4.out) Hgm.out).trans HL4.out)
    have HWc := Lib.hid (Chg.trans HW.out HCl.out)
    have HMt := Lib.hid (HMet.out w3 HMl.out)
    clear hHeld HPut1 HPut2 HLkE HLkE1 HLkE2 HEn HSt hw1
    rcases HVz.out with hv0 | ⟨hv1, hks⟩
    · subst hv0
      have HCf := Lib.hid (HCF.out w3 HWc.out HMt.out)
      go_wp2_with (go_at_call 91; refine HCf.out.mono ?_; rintro e wz ⟨rfl, hc, hm⟩; refine Stop.out ?_)
      unfold Stop
      have HFin := Lib.hid (And.intro (Chg.trans HWc.out hc) hm)
      clear k0 l0 l1 f0 e0 e1 e2 e3 e4 hMf hc hm
      go_wp2
      go_ret
      exact ⟨rfl, HFin.out⟩
    · have HFin := Lib.hid (And.intro HWc.out (HEnd.out hks w3 HMt.out))
      have hv2 : (1 : Int) < v + 1 := by omega
      clear hv1 hks
      go_wp2
      go_ret
      exact ⟨rfl, HFin.out⟩
end Go.Proofs.YtpapcnogbmjpjaaGreatDoor
