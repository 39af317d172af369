/- How deep a tree is, told by the program: the closure. -/
import Derived.Test.YtpapcnogbmjpjaaGreatDoorK9
import Derived.Test.YtpapcnogbmjpjaaGreatDoorK10
namespace Go.Proofs.YtpapcnogbmjpjaaGreatDoor
open Go.RowKit
set_option maxRecDepth 100000
set_option linter.unusedSimpArgs false
set_option linter.unusedVariables false
attribute [local go_sem] Oper.semAt_some

theorem below_drew (w : World) : Below w.heap.size w w.drew := (Below.refl _ _).drew
theorem depL_append : ∀ (a b : List Tr), depL (a ++ b) = max (depL a) (depL b) := by
  intro a
  induction a with
  | nil => intro b; simp [depL]
  | cons t a ih => intro b; simp only [List.cons_append, depL, ih]; omega
theorem bL_append : ∀ (a b : List Tr), bL (a ++ b) = bL a ++ bL b := by
  intro a
  induction a with
  | nil => intro b; simp [bL]
  | cons t a ih => intro b; simp only [List.cons_append, bL, ih, List.append_assoc]
theorem depL_take (l : List Tr) (k : Nat) (h : k < l.length) : depL (l.take (k + 1)) = max (depL (l.take k)) (dep l[k]) := by
  rw [List.take_succ_eq_append_getElem h, depL_append]
  simp [depL]
theorem bL_take (l : List Tr) (k : Nat) (h : k < l.length) : bL (l.take (k + 1)) = bL (l.take k) ++ bT l[k] := by
  rw [List.take_succ_eq_append_getElem h, bL_append]
  simp [bL]
theorem bL_split (l : List Tr) (k : Nat) (h : k < l.length) : bL l = bL (l.take k) ++ (bT l[k] ++ bL (l.drop (k + 1))) := by
  conv => lhs; rw [← List.take_append_drop k l, List.drop_eq_getElem_cons h]
  rw [bL_append]
  simp [bL]
/-- a list of Kids, where it lies -/
def AtK (w : World) (kb kc : Nat) (ks : List Tr) : Prop := AtL w ks ∧ (ks ≠ [] → RowTr w kb ks ∧ ks.length ≤ kc ∧ kc ≤ maxLen)
/-- the rows of a list of Kids -/
abbrev bKs (kb : Nat) (ks : List Tr) : List Nat := bK kb ks (bL ks)
theorem AtK.on {w w' : World} {kb kc : Nat} {ks : List Tr} (h : AtK w kb kc ks) (hw : ∀ k ∈ bKs kb ks, w'.heap[k]? = w.heap[k]?) (hs : w.heap.size ≤ w'.heap.size) : AtK w' kb kc ks := by
  have hm : ∀ k ∈ bL ks, k ∈ bKs kb ks := fun k hk => by
    unfold bKs
    cases ks with
    | nil => simp [bL] at hk
    | cons a b => simp [bK, hk]
  refine ⟨h.1.on ks (fun k hk => hw k (hm k hk)) hs, fun hn => ⟨(h.2 hn).1.on (hw kb ?_), (h.2 hn).2⟩⟩
  unfold bKs
  cases ks with
  | nil => exact absurd rfl hn
  | cons a b => simp [bK]
theorem AtK.lt {w : World} {kb kc : Nat} {ks : List Tr} (h : AtK w kb kc ks) : ∀ k ∈ bKs kb ks, k < w.heap.size := fun k hk => by
  unfold bKs at hk
  cases hks : ks with
  | nil => rw [hks] at hk; simp [bK] at hk
  | cons a b =>
    rw [hks] at hk
    rcases List.mem_cons.1 hk with rfl | hk
    · exact (h.2 (by rw [hks]; simp)).1.lt
    · exact AtL.lt ks h.1 k (by rw [hks]; exact hk)
theorem AtK.plain {w : World} {kb kc : Nat} {ks : List Tr} (h : AtK w kb kc ks) : PlainK w (keyOf kb ks) := by
  cases ks with
  | nil => exact PlainK.nil w
  | cons a b =>
    obtain ⟨⟨cs, h1, _⟩, _⟩ := h.2 (by simp)
    intro p hp
    obtain rfl : (kb, 0) = p := by simpa [keyOf] using hp
    exact ⟨cs, _, h1⟩
theorem AtK.len {w : World} {kb kc : Nat} {ks : List Tr} (h : AtK w kb kc ks) : ks.length ≤ maxLen := by
  cases ks with
  | nil => exact Nat.zero_le _
  | cons a b => exact Nat.le_trans (h.2 (by simp)).2.1 (h.2 (by simp)).2.2
/-- what is known, in a map -/
structure Kn (w : World) (m : Nat) (E : List (Key × Int)) (D : Nat → Prop) : Prop where
  at_ : MapAt w m E
  zero : ∀ p ∈ E, p.1 = ((none, 0) : Key) → p.2 = 0
  keys : ∀ p ∈ E, p.1 = ((none, 0) : Key) ∨ ∃ b n, D b ∧ p.1 = (some (b, 0), n)
theorem valL_mem {k : Key} {d : Int} : ∀ {E : List (Key × Int)} {i : Nat}, (findL k i E).map (·.2) = some d → ∃ p ∈ E, p.1 = k ∧ p.2 = d := by
  intro E
  induction E with
  | nil => intro i h; cases h
  | cons q E ih =>
    intro i h
    unfold findL at h
    by_cases e : k = q.1
    · rw [if_pos e] at h
      exact ⟨q, by simp, e.symm, by simpa using h⟩
    · rw [if_neg e] at h
      obtain ⟨p, h1, h2⟩ := ih h
      exact ⟨p, by simp [h1], h2⟩
theorem Kn.found {w : World} {m : Nat} {E : List (Key × Int)} {D : Nat → Prop} (h : Kn w m E D) {kb : Nat} {ks : List Tr} {d : Int} (hv : valL (keyOf kb ks) E = some d) (hD : ∀ b ∈ bKs kb ks, ¬ D b) : ks = [] ∧ d = 0 := by
  obtain ⟨p, h1, h2, h3⟩ := valL_mem hv
  cases ks with
  | nil => exact ⟨rfl, h3 ▸ h.zero p h1 h2⟩
  | cons t ts =>
    rcases h.keys p h1 with e | ⟨b, n, hb, e⟩
    · rw [h2] at e; cases e
    · rw [h2] at e
      obtain rfl : kb = b := by
        have := congrArg Prod.fst e
        simpa [keyOf] using this
      exact absurd hb (hD kb (by unfold bKs; simp [bK]))
theorem RowTr.cells5 {w : World} {kb : Nat} {l : List Tr} (h : RowTr w kb l) (i : Nat) (hi : i < l.length) : ∀ (j : Nat) (v : Value), (exC l[i])[j]? = some v → w.cell? ⟨kb, i * 5 + j, none⟩ = some v := fun j v hv => by
  rw [Nat.mul_comm i 5]
  exact h.cells i hi j v hv
theorem kid_facts {w : World} {kb kc : Nat} {ks : List Tr} {k : Nat} (hlt : k < ks.length) {t0 t1 : Int} {t2 : ByteArray} {fA : Option Addr} {fn fc kb' kc' : Nat} {ks' : List Tr} (ht : Tr.mk t0 t1 t2 fA fn fc kb' kc' ks' = ks[k]) :
    (AtK w kb kc ks → AtK w kb' kc' ks') ∧ ((bKs kb ks).Nodup → (bKs kb' ks').Nodup) ∧ ((bKs kb ks).Nodup → ∀ b ∈ bKs kb' ks', b ∉ bL (ks.take k)) ∧ (∀ b ∈ bKs kb' ks', b ∈ bKs kb ks) ∧
    depL (ks.take (k + 1)) = max (depL (ks.take k)) (1 + depL ks') ∧ bL (ks.take (k + 1)) = bL (ks.take k) ++ bKs kb' ks' := by
  have hb : bT ks[k] = bKs kb' ks' := by rw [← ht]; unfold bT; rfl
  have hd : dep ks[k] = 1 + depL ks' := by rw [← ht]; unfold dep; rfl
  have hs := bL_split ks k hlt
  rw [hb] at hs
  have hm : ∀ b ∈ bL ks, b ∈ bKs kb ks := fun b h => by
    unfold bKs
    cases ks with
    | nil => simp [bL] at h
    | cons x y => simp [bK, h]
  have hn : (bKs kb ks).Nodup → (bL ks).Nodup := fun h => by
    unfold bKs at h
    cases ks with
    | nil => exact absurd hlt (Nat.not_lt_zero _)
    | cons x y => exact (List.nodup_cons.1 h).2
  refine ⟨fun h => ?_, fun h => ?_, fun h b h1 h2 => ?_, fun b h1 => hm b ?_, ?_, ?_⟩
  · have := h.1.at_ ks[k] (List.getElem_mem hlt)
    rw [← ht] at this
    unfold AtT at this
    exact this
  · have h3 := hn h
    rw [hs] at h3
    exact (List.nodup_append.1 (List.nodup_append.1 h3).2.1).1
  · have h3 := hn h
    rw [hs] at h3
    exact (List.nodup_append.1 h3).2.2 b h2 b (List.mem_append.2 (.inl h1)) rfl
  · rw [hs]
    exact List.mem_append.2 (.inr (List.mem_append.2 (.inl h1)))
  · rw [depL_take ks k hlt, hd]
  · rw [bL_take ks k hlt, hb]
theorem mem_putL {k : Key} {v : Int} : ∀ {E : List (Key × Int)} {p : Key × Int}, p ∈ putL k v E → p ∈ E ∨ p = (k, v) := by
  intro E
  induction E with
  | nil => intro p hp; simp [putL] at hp; exact .inr hp
  | cons q E ih =>
    intro p hp
    unfold putL at hp
    by_cases e : k = q.1
    · rw [if_pos e] at hp
      rcases List.mem_cons.1 hp with h | h
      · exact .inr h
      · exact .inl (by simp [h])
    · rw [if_neg e] at hp
      rcases List.mem_cons.1 hp with h | h
      · exact .inl (by simp [h])
      · rcases ih h with h | h
        · exact .inl (by simp [h])
        · exact .inr h
theorem Kn.put {w : World} {m : Nat} {E : List (Key × Int)} {D : Nat → Prop} (h : Kn w m E D) {k : Key} (hk : PlainK w k) {v : Int} (hz : k = (none, 0) → v = 0) (hD : k = ((none, 0) : Key) ∨ ∃ b n, D b ∧ k = (some (b, 0), n)) : Kn (putW w m (putL k v E)) m (putL k v E) D :=
  ⟨h.at_.put hk v, fun p hp e => by
    rcases mem_putL hp with h1 | rfl
    · exact h.zero p h1 e
    · exact hz e, fun p hp => by
    rcases mem_putL hp with h1 | rfl
    · exact h.keys p h1
    · exact hD⟩
theorem keyOf_nil {kb : Nat} {ks : List Tr} (h : keyOf kb ks = (none, 0)) : ks = [] := by
  cases ks with
  | nil => rfl
  | cons t ts => simp [keyOf] at h
theorem bL_sub {kb : Nat} {ks : List Tr} {b : Nat} (h : b ∈ bL ks) : b ∈ bKs kb ks := by
  unfold bKs
  cases ks with
  | nil => simp [bL] at h
  | cons x y => simp [bK, h]
theorem keyOf_in (kb : Nat) (ks : List Tr) {D : Nat → Prop} (hD : ∀ b, b ∈ bKs kb ks → D b) : keyOf kb ks = ((none, 0) : Key) ∨ ∃ b n, D b ∧ keyOf kb ks = (some (b, 0), n) := by
  cases ks with
  | nil => exact .inl rfl
  | cons t ts => exact .inr ⟨kb, _, hD kb (by unfold bKs; simp [bK]), rfl⟩
theorem kidsV_form (kb kc : Nat) (ks : List Tr) : ∃ A c, kidsV kb kc ks = .slice A ks.length c ∧ (ks ≠ [] → A = some ⟨kb, 0, none⟩) := by
  cases ks with
  | nil => exact ⟨none, 0, rfl, fun h => absurd rfl h⟩
  | cons t ts => exact ⟨some ⟨kb, 0, none⟩, kc, rfl, fun _ => rfl⟩
theorem bKs_self {kb : Nat} {ks : List Tr} {k : Nat} (h : k < ks.length) : kb ∈ bKs kb ks := by
  unfold bKs
  cases ks with
  | nil => exact absurd h (Nat.not_lt_zero _)
  | cons t ts => simp [bK]
theorem Kn.on {w w' : World} {m : Nat} {E : List (Key × Int)} {D : Nat → Prop} (h : Kn w m E D) (hb : Below w.heap.size w w') : Kn w' m E D := ⟨h.at_.on hb, h.zero, h.keys⟩
theorem Kn.wide {w : World} {m : Nat} {E : List (Key × Int)} {D D' : Nat → Prop} (h : Kn w m E D) (hD : ∀ b, D b → D' b) : Kn w m E D' :=
  ⟨h.at_, h.zero, fun p hp => by
    rcases h.keys p hp with e | ⟨b, n, hb, e⟩
    · exact .inl e
    · exact .inr ⟨b, n, hD b hb, e⟩⟩
set_option maxHeartbeats 2000000 in
theorem code_deep1_0 (m Ka Fa kb kc : Nat) (ks : List Tr) (hl : ks.length ≤ maxLen) (w : World) : Calls Tryz.prog 87 #[kidsV kb kc ks, .int .i64 0, .pointer (some ⟨Ka, 0, none⟩), .pointer (some ⟨Fa, 0, none⟩)] w fun e w' => e = .returned (.int .i64 ((min (depL ks) 1 : Nat) : Int)) ∧ w' = w := by
  have hlen : (ks.length : Int) ≤ 9223372036854775807 := by
    unfold maxLen at hl
    omega
  cases ks with
  | nil =>
    unfold kidsV
    go_enter Tryz.func87, Tryz.ntmps87
    go_wp2
    go_ret
    exact ⟨rfl, rfl⟩
  | cons t ts =>
    have hd : (min (depL (t :: ts)) 1 : Nat) = 1 := by
      cases t
      simp only [depL, dep]
      omega
    rw [hd]
    unfold kidsV
    obtain ⟨n, hn⟩ : ∃ n, n = (t :: ts).length := ⟨_, rfl⟩
    rw [← hn] at hlen ⊢
    have h1 : min (n : Int) 1 = 1 := by
      have : 1 ≤ n := by rw [hn]; simp
      omega
    clear hl hd hn
    go_enter Tryz.func87, Tryz.ntmps87
    go_wp2
    all_goals (go_ret; exact ⟨by first | rfl | exact ret_int (by omega), rfl⟩)
set_option maxHeartbeats 4000000 in
theorem code_deep1_s (m Ka Fa : Nat) (tK tF : TypeId) (r : Nat) (hr : r < 64)
    (ih : ∀ (kb kc : Nat) (ks : List Tr) (w : World) (E : List (Key × Int)) (D : Nat → Prop), w.heap[Ka]? = some (.cells #[.map (some m)] tK (0, 0)) → w.heap[Fa]? = some (.cells #[.func (.func 87) #[] #[.pointer (some ⟨Ka, 0, none⟩), .pointer (some ⟨Fa, 0, none⟩)]] tF (0, 0)) → AtK w kb kc ks → (bKs kb ks).Nodup → (∀ b ∈ bKs kb ks, ¬ D b) → m ∉ bKs kb ks → Kn w m E D →
      Calls Tryz.prog 87 #[kidsV kb kc ks, .int .i64 r, .pointer (some ⟨Ka, 0, none⟩), .pointer (some ⟨Fa, 0, none⟩)] w fun e w' => e = .returned (.int .i64 ((min (depL ks) (r + 1) : Nat) : Int)) ∧ Chg m w w' ∧ ∃ E', Kn w' m E' (fun b => D b ∨ b ∈ bKs kb ks))
    (kb kc : Nat) (ks : List Tr) (w : World) (E : List (Key × Int)) (D : Nat → Prop) (hK : w.heap[Ka]? = some (.cells #[.map (some m)] tK (0, 0))) (hF : w.heap[Fa]? = some (.cells #[.func (.func 87) #[] #[.pointer (some ⟨Ka, 0, none⟩), .pointer (some ⟨Fa, 0, none⟩)]] tF (0, 0))) (hA : AtK w kb kc ks) (hN : (bKs kb ks).Nodup) (hD : ∀ b ∈ bKs kb ks, ¬ D b) (hm : m ∉ bKs kb ks) (hE : Kn w m E D) :
    Calls Tryz.prog 87 #[kidsV kb kc ks, .int .i64 ((r : Int) + 1), .pointer (some ⟨Ka, 0, none⟩), .pointer (some ⟨Fa, 0, none⟩)] w fun e w' => e = .returned (.int .i64 ((min (depL ks) (r + 2) : Nat) : Int)) ∧ Chg m w w' ∧ ∃ E', Kn w' m E' (fun b => D b ∨ b ∈ bKs kb ks) := by
  have hq : (((r : Int) + 1) == 0) = false := by simp; omega
  have HLo := Lib.hid (fun W => code_listOf kb kc ks hA.len W)
  have HPk : Hid (∀ W, Below w.heap.size w W → PlainK W (keyOf kb ks)) := Lib.hid (fun W hW => hA.plain.on hW)
  have HMa : Hid (∀ W, Below w.heap.size w W → MapAt W m E) := Lib.hid (fun W hW => hE.at_.on hW)
  have HKr := Lib.hid hK
  have HIh := Lib.hid ih
  have HFr := Lib.hid hF
  have HA := Lib.hid hA
  have HN := Lib.hid hN
  have HD := Lib.hid hD
  have HM := Lib.hid hm
  have HE := Lib.hid hE
  clear ih hK hF hA hN hD hm hE
  obtain ⟨kv, hkv⟩ : ∃ v, v = kidsV kb kc ks := ⟨_, rfl⟩
  rw [← hkv] at HLo ⊢
  have HKv := Lib.hid hkv
  clear hkv
  go_enter Tryz.func87, Tryz.ntmps87
  go_wp2
  refine wp_region_held_drew (S := fun V : World => V.heap[Ka]? = some (.cells #[.map (some m)] tK (0, 0))) (by kernel_rfl) (heap_on (below_drew w) HKr.out) ?_
  intro hHeld
  have hdr : Below w.heap.size w w.drew := below_drew w
  have HDr := Lib.hid hdr
  clear hdr
  generalize w.drew = wd at hHeld HDr ⊢
  (refine takeH (i := 0) (v := ?_) rfl (by kernel_rfl) (by kernel_rfl) (by kernel_rfl) (fun _ _ _ h => h) (Or.inl ⟨by rfl, ?_⟩) (by assumption) ?_; rotate_left; (focus ((intro wS hSw); (try dsimp only at hSw); obtain ⟨s0, _⟩ := one_cell hSw; go_simp; (try with_reducible rfl); done)); (try simp only [Act.put, List.setIfInBounds_toArray, List.set_cons_zero, List.set_cons_succ]))
  (refine takeH (i := 1) (v := ?_) rfl (by kernel_rfl) (by kernel_rfl) (by kernel_rfl) (fun _ _ _ h => h) (Or.inl ⟨by rfl, ?_⟩) (by assumption) ?_; rotate_left; (focus ((intro wS hSw); (try dsimp only at hSw); obtain ⟨s0, _⟩ := one_cell hSw; go_simp; (try with_reducible rfl); done)); (try simp only [Act.put, List.setIfInBounds_toArray, List.set_cons_zero, List.set_cons_succ]))
  refine aloneH (i := 2) rfl (by kernel_rfl) (fun K hK => ?_)
  rw [if_pos (by rfl)]
  go_simp; ((refine (HLo.out _).mono ?_); (rintro e w1 ⟨rfl, hb⟩; have HB1 := Lib.hid hb; clear hb); (try go_simp))
  refine hK.out _ _ (heap_on HB1.out hHeld) (fun hNew => ?_)
  clear hK K hHeld; (have hHeld := hNew); clear hNew; (try simp only [Act.put, List.setIfInBounds_toArray, List.set_cons_zero, List.set_cons_succ])
  refine aloneH (i := 3) rfl (by kernel_rfl) (fun K hK => ?_)
  rw [if_pos (by rfl)]
  have HB2 : Hid (Below w1.heap.size w1 w1) := Lib.hid (Below.refl _ _)
  have hlk := run_look w1 m (keyOf kb ks) (HPk.out _ (below_then HDr.out HB1.out)) E (HMa.out _ (below_then HDr.out HB1.out))
  go_simp
  refine hK.out _ _ (hHeld) (fun hNew => ?_)
  clear hK K hHeld; (have hHeld := hNew); clear hNew; (try simp only [Act.put, List.setIfInBounds_toArray, List.set_cons_zero, List.set_cons_succ])
  (refine takeH (i := 4) (v := ?_) rfl (by kernel_rfl) (by kernel_rfl) (by kernel_rfl) (fun _ _ _ h => h) (Or.inl ⟨by rfl, ?_⟩) (by assumption) ?_; rotate_left; (focus ((intro wS hSw); (try dsimp only at hSw); obtain ⟨s0, _⟩ := one_cell hSw; go_simp; (try with_reducible rfl); done)); (try simp only [Act.put, List.setIfInBounds_toArray, List.set_cons_zero, List.set_cons_succ]))
  (refine takeH (i := 5) (v := ?_) rfl (by kernel_rfl) (by kernel_rfl) (by kernel_rfl) (fun _ _ _ h => h) (Or.inl ⟨by rfl, ?_⟩) (by assumption) ?_; rotate_left; (focus ((intro wS hSw); (try dsimp only at hSw); obtain ⟨s0, _⟩ := one_cell hSw; go_simp; (try with_reducible rfl); done)); (try simp only [Act.put, List.setIfInBounds_toArray, List.set_cons_zero, List.set_cons_succ]))
  (refine takeH (i := 6) (v := ?_) rfl (by kernel_rfl) (by kernel_rfl) (by kernel_rfl) (fun _ _ _ h => h) (Or.inl ⟨by rfl, ?_⟩) (by assumption) ?_; rotate_left; (focus ((intro wS hSw); (try dsimp only at hSw); obtain ⟨s0, _⟩ := one_cell hSw; go_simp; (try with_reducible rfl); done)); (try simp only [Act.put, List.setIfInBounds_toArray, List.set_cons_zero, List.set_cons_succ]))
  (refine takeH (i := 7) (v := ?_) rfl (by kernel_rfl) (by kernel_rfl) (by kernel_rfl) (fun _ _ _ h => h) (Or.inl ⟨by rfl, ?_⟩) (by assumption) ?_; rotate_left; (focus ((intro wS hSw); (try dsimp only at hSw); obtain ⟨s0, _⟩ := one_cell hSw; go_simp; (try with_reducible rfl); done)); (try simp only [Act.put, List.setIfInBounds_toArray, List.set_cons_zero, List.set_cons_succ]))
  (refine takeH (i := 8) (v := ?_) rfl (by kernel_rfl) (by kernel_rfl) (by kernel_rfl) (fun _ _ _ h => h) (Or.inl ⟨by rfl, ?_⟩) (by assumption) ?_; rotate_left; (focus ((intro wS hSw); (try dsimp only at hSw); obtain ⟨s0, _⟩ := one_cell hSw; go_simp; (try with_reducible rfl); done)); (try simp only [Act.put, List.setIfInBounds_toArray, List.set_cons_zero, List.set_cons_succ]))
  refine wpAnyH_done (by kernel_rfl) ?_ _
  have HBw := Lib.hid (below_then HDr.out (below_then HB1.out HB2.out))
  clear hHeld HDr
  generalize hv : valL (keyOf kb ks) E = vl
  cases vl with
  | some d =>
    obtain ⟨hks, rfl⟩ := HE.out.found hv HD.out
    have HRes : Hid (((min (depL ks) (r + 2) : Nat) : Int) = 0) := Lib.hid (by rw [hks]; simp [depL])
    simp only [Option.getD_some, Option.isSome_some]
    clear hks hv
    go_wp2
    go_ret
    exact ⟨by rw [HRes.out]; rfl, Chg.of HBw.out, E, (HE.out.on HBw.out).wide (fun b h => .inl h)⟩
  | none =>
    simp only [Option.getD_none, Option.isSome_none]
    have HV := Lib.hid hv
    clear hv
    obtain rfl := HKv.out
    have HG := Lib.hid (Kn.on HE.out HBw.out)
    have HAk := Lib.hid (HA.out.on (fun k hk => HBw.out.block k (HA.out.lt k hk)) HBw.out.size)
    have HKr1 := Lib.hid (heap_on HBw.out HKr.out)
    have HFr1 := Lib.hid (heap_on HBw.out HFr.out)
    obtain ⟨A, ac, hAc, hAk⟩ := kidsV_form kb kc ks
    rw [hAc] at HLo ⊢
    have HAk1 := Lib.hid hAk
    have hln : (ks.length : Int) ≤ 9223372036854775807 := by
      have := HA.out.len
      unfold maxLen at this
      omega
    clear HA HKr HFr HE HPk HMa HB1 HB2 hAk hAc HKv
    go_wp2
    go_loopw [9, 28] (fun v9 v28 wr => ∃ k : Nat, k ≤ ks.length ∧ v28 = .int .i64 (k : Nat) ∧ v9 = .int .i64 ((min (depL (ks.take k)) (r + 2) : Nat) : Int) ∧ Hid (Chg m w1 wr ∧ ∃ E', Kn wr m E' (fun b => D b ∨ b ∈ bL (ks.take k)))) (fun _ v28 _ => ks.length - (intOf v28).toNat)
    case atStart => exact ⟨0, Nat.zero_le _, rfl, by simp [depL], Lib.hid ⟨Chg.refl _ _, E, HG.out.wide (fun b h => .inl h)⟩⟩
    case round =>
      obtain ⟨k, hk, rfl, rfl, HR⟩ := hrel
      by_cases hlt : k < ks.length
      · obtain rfl := HAk1.out (fun e => by rw [e] at hlt; exact absurd hlt (Nat.not_lt_zero _))
        have HRow := Lib.hid (((HAk.out.2 (fun e => by rw [e] at hlt; exact absurd hlt (Nat.not_lt_zero _))).1).on (HR.out.1.heap (HAk.out.lt kb (bKs_self hlt)) (fun e => HM.out (e ▸ bKs_self hlt))))
        obtain ⟨tk, htk⟩ : ∃ t, t = ks[k] := ⟨_, rfl⟩
        have HC := Lib.hid (HRow.out.cells5 k hlt)
        rw [← htk] at HC
        obtain ⟨t0, t1, t2, fA, fn, fc, kb', kc', ks'⟩ := tk
        have HTk := Lib.hid htk
        clear htk
        have u0 := HC.out 0 _ rfl
        rw [Nat.add_zero] at u0
        have u1 := HC.out 1 _ rfl
        have u2 := HC.out 2 _ rfl
        have u3 := HC.out 3 _ rfl
        have u4 := HC.out 4 _ rfl
        obtain ⟨kv', hkv'⟩ : ∃ v, v = kidsV kb' kc' ks' := ⟨_, rfl⟩
        rw [← hkv'] at u4
        have HKv' := Lib.hid hkv'
        obtain ⟨HKid, HKn, HKd, HKi, HKdep, HKb⟩ := kid_facts (w := w1) (kb := kb) (kc := kc) hlt HTk.out
        have HIn := Lib.hid (And.intro HKid (And.intro HKn (And.intro HKd (And.intro HKi (And.intro HKdep HKb)))))
        clear hkv' HC HKid HKn HKd HKi HKdep HKb
        have HN0 := Lib.hid (heap_alloc_new wr (.cells #[.int .i64 0, .int .i64 0, .string ⟨#[]⟩, .slice none 0 0, .slice none 0 0] 32))
        have HBF := Lib.hid (box_row wr #[.int .i64 0, .int .i64 0, .string ⟨#[]⟩, .slice none 0 0, .slice none 0 0] #[.int .i64 t0, .int .i64 t1, .string t2, .slice fA fn fc, kv'] 32 rfl)
        have hone : ∀ v ∈ [Value.int .i64 t0, .int .i64 t1, .string t2, .slice fA fn fc, kv'], v.oneCell' = true := by
          rw [HKv'.out]
          cases ks' <;> simp [Value.oneCell', kidsV]
        go_wp2_with ((with_reducible refine wpList_store_row (o := ⟨none, _, _, _, _, _⟩) 32 ?b0 (.tmp 11) (.tmp 31) ?b1 wr.heap.size ?b2 [.int .i64 t0, .int .i64 t1, .string t2, .slice fA fn fc, kv'] ?b3 ?b4 ?b5 #[.int .i64 0, .int .i64 0, .string ⟨#[]⟩, .slice none 0 0, .slice none 0 0] ?b6 32 ?b7 ?_); (case b0 => rfl); (case b1 => rfl); (case b2 => rfl); (case b3 => exact expr_info); (case b4 => exact hone); (case b5 => rfl); (case b6 => rfl); (case b7 => exact HN0.out); (try simp only [Act.put]); refine Stop.out ?_)
        unfold Stop
        clear u0 u1 u2 u3 u4 hone HN0
        generalize World.setRow _ _ _ = ws at HBF ⊢
        obtain ⟨g, hg⟩ : ∃ g, g = wr.heap.size := ⟨_, rfl⟩
        have HB5 : Hid (Below wr.heap.size wr ws) := Lib.hid HBF.out.1
        rw [← hg] at HBF ⊢
        clear hg
        obtain ⟨HCh, E2, HE2⟩ := HR.out
        have hFm : Fa ≠ m := fun e => HG.out.at_.not _ _ (e ▸ HFr1.out)
        have hKm : Ka ≠ m := fun e => HG.out.at_.not _ _ (e ▸ HKr1.out)
        have hF2 := heap_on HB5.out ((HCh.heap (heapLt HFr1.out) hFm).trans HFr1.out)
        have hK2 := heap_on HB5.out ((HCh.heap (heapLt HKr1.out) hKm).trans HKr1.out)
        have hAs := (HIn.out.1 HAk.out).on (w' := ws) (fun b hb => by
          have hb2 := HIn.out.2.2.2.1 b hb
          have hb3 := HAk.out.lt b hb2
          exact (HB5.out.block b (Nat.lt_of_lt_of_le hb3 HCh.size)).trans (HCh.heap hb3 (fun e => HM.out (e ▸ hb2)))) (Nat.le_trans HCh.size HB5.out.size)
        have HIc := Lib.hid (HIh.out kb' kc' ks' ws E2 _ hK2 hF2 hAs (HIn.out.2.1 HN.out) (fun b hb hd => by
          rcases hd with hd | hd
          · exact HD.out b (HIn.out.2.2.2.1 b hb) hd
          · exact HIn.out.2.2.1 HN.out b hb hd) (fun hx => HM.out (HIn.out.2.2.2.1 m hx)) (HE2.on HB5.out))
        rw [← HKv'.out] at HIc
        have f0 := (one_cell hF2).1
        have y4 : ws.cell? ⟨g, 4, none⟩ = some kv' := cell_of_row ws g 4 _ _ _ HBF.out.2
        have HC6 := Lib.hid (HCh.trans (Chg.of (R := m) HB5.out))
        have HTd := Lib.hid HIn.out.2.2.2.2
        have hw1 : ((r : Int) + 1 - 1) = (r : Int) := by omega
        have hrr : (r : Int) < 64 := by omega
        clear hF2 hK2 hAs hFm hKm HCh HE2 HIn HB5 HRow HTk HR
        go_wp2_with (go_at_call 87; refine HIc.out.mono ?_; rintro e w3 ⟨rfl, hc3, E3, hE3⟩; refine Stop.out ?_)
        unfold Stop
        have HC7 := Lib.hid (HC6.out.trans hc3)
        have HE3 := Lib.hid hE3
        obtain ⟨x, hx⟩ : ∃ x, x = min (depL ks') (r + 1) := ⟨_, rfl⟩
        have hxl : (x : Int) < 66 := by omega
        rw [← hx]
        have HX := Lib.hid hx
        clear hx hc3 hE3 f0 y4 HIc HBF
        go_wp2
        refine ⟨⟨k + 1, by omega, by simp, ?_, Lib.hid ⟨HC7.out, E3, HE3.out.wide (fun b h => ?_)⟩⟩, by simp [intOf]; omega⟩
        · have h1 := HTd.out.1
          have h2 := HX.out
          congr 1
          rw [h1, h2]
          omega
        · rw [HTd.out.2]
          rcases h with (h | h) | h
          · exact .inl h
          · exact .inr (List.mem_append.2 (.inl h))
          · exact .inr (List.mem_append.2 (.inr h))
      · obtain rfl : k = ks.length := by omega
        go_wp2
        obtain ⟨HCh, E2, HE2⟩ := HR.out
        have hKm : Ka ≠ m := fun e => HG.out.at_.not _ _ (e ▸ HKr1.out)
        have hK2 := (HCh.heap (heapLt HKr1.out) hKm).trans HKr1.out
        have HKm := Lib.hid hKm
        have HPk : Hid (∀ W, Below wr.heap.size wr W → PlainK W (keyOf kb ks)) := Lib.hid (fun W hW => (HAk.out.plain.keeps HG.out.at_.not HCh).on hW)
        have HE5 : Hid (∀ W, Below wr.heap.size wr W → Kn W m E2 (fun b => D b ∨ b ∈ bKs kb ks)) := Lib.hid (fun W hW => (HE2.on hW).wide (fun b h => by
          rw [List.take_length] at h
          rcases h with h | h
          · exact .inl h
          · exact .inr (bL_sub h)))
        have HC5 := Lib.hid (Chg.trans (Chg.of (R := m) HBw.out) HCh)
        obtain ⟨dv, hdv⟩ : ∃ dv : Int, dv = ((min (depL (List.take ks.length ks)) (r + 2) : Nat) : Int) := ⟨_, rfl⟩
        rw [← hdv]
        have HDv := Lib.hid hdv
        clear hdv hKm HE2 HCh HR
        refine wp_region_held_drew (S := fun V : World => V.heap[Ka]? = some (.cells #[.map (some m)] tK (0, 0))) (by kernel_rfl) (heap_on (below_drew wr) hK2) ?_
        intro hHeld
        have HDr := Lib.hid (below_drew wr)
        clear hK2
        generalize wr.drew = wd at hHeld HDr ⊢
        (refine takeH (i := 0) (v := ?_) rfl (by kernel_rfl) (by kernel_rfl) (by kernel_rfl) (fun _ _ _ h => h) (Or.inl ⟨by rfl, ?_⟩) (by assumption) ?_; rotate_left; (focus ((intro wS hSw); (try dsimp only at hSw); obtain ⟨s0, _⟩ := one_cell hSw; go_simp; (try with_reducible rfl); done)); (try simp only [Act.put, List.setIfInBounds_toArray, List.set_cons_zero, List.set_cons_succ]))
        (refine takeH (i := 1) (v := ?_) rfl (by kernel_rfl) (by kernel_rfl) (by kernel_rfl) (fun _ _ _ h => h) (Or.inl ⟨by rfl, ?_⟩) (by assumption) ?_; rotate_left; (focus ((intro wS hSw); (try dsimp only at hSw); obtain ⟨s0, _⟩ := one_cell hSw; go_simp; (try with_reducible rfl); done)); (try simp only [Act.put, List.setIfInBounds_toArray, List.set_cons_zero, List.set_cons_succ]))
        (refine takeH (i := 3) (v := ?_) rfl (by kernel_rfl) (by kernel_rfl) (by kernel_rfl) (fun _ _ _ h => h) (Or.inl ⟨by rfl, ?_⟩) (by assumption) ?_; rotate_left; (focus ((intro wS hSw); (try dsimp only at hSw); obtain ⟨s0, _⟩ := one_cell hSw; go_simp; (try with_reducible rfl); done)); (try simp only [Act.put, List.setIfInBounds_toArray, List.set_cons_zero, List.set_cons_succ]))
        refine aloneH (i := 2) rfl (by kernel_rfl) (fun K hK => ?_)
        rw [if_pos (by rfl)]
        go_simp; ((refine (HLo.out _).mono ?_); (rintro e w1 ⟨rfl, hb⟩; have HB1 := Lib.hid hb; clear hb); (try go_simp))
        refine hK.out _ _ (heap_on HB1.out hHeld) (fun hNew => ?_)
        clear hK K hHeld; (have hHeld := hNew); clear hNew; (try simp only [Act.put, List.setIfInBounds_toArray, List.set_cons_zero, List.set_cons_succ])
        refine aloneH (i := 4) rfl (by kernel_rfl) (fun K hK => ?_)
        rw [if_pos (by rfl)]
        have hup := run_update w1 m (keyOf kb ks) (HPk.out _ (below_then HDr.out HB1.out)) dv E2 (HE5.out _ (below_then HDr.out HB1.out)).at_
        go_simp
        refine hK.out _ _ ((((putW_chg w1 m _).heap (heapLt hHeld) HKm.out).trans hHeld)) (fun hNew => ?_)
        clear hK K hHeld; (have hHeld := hNew); clear hNew; (try simp only [Act.put])
        refine wpAnyH_done (by kernel_rfl) ?_ _
        have HKn := Lib.hid ((HE5.out _ (below_then HDr.out HB1.out)).put (HPk.out _ (below_then HDr.out HB1.out)) (v := dv) (fun e => by
          rw [HDv.out, keyOf_nil e]
          simp [depL]) (keyOf_in kb ks (fun b h => .inr h)))
        have HCw := Lib.hid (Chg.trans HC5.out (Chg.trans (Chg.of (R := m) (below_then HDr.out HB1.out)) (putW_chg w1 m (putL (keyOf kb ks) dv E2))))
        unfold putW at HKn HCw
        clear hHeld HDr HPk HE5 HC5 HLo
        generalize World.mk _ _ _ _ _ = wq at HKn HCw ⊢
        go_wp2
        go_ret
        refine ⟨?_, HCw.out, _, HKn.out⟩
        rw [HDv.out, List.take_length]
        rfl
end Go.Proofs.YtpapcnogbmjpjaaGreatDoor
