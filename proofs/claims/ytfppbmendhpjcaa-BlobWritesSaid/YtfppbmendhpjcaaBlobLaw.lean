/- The statement on what is written, walked. -/
import Derived.Test.YtfppbmendhpjcaaBlobOps
namespace Go.Proofs.Ytfppbmendhpjcaa
open Go.RowKit

theorem below_tr {B : Nat} {a b c : World} (h : Below B a b) (k : Below b.heap.size b c) (hB : B ≤ a.heap.size) : Below B a c := h.trans (k.mono (Nat.le_trans hB h.size))
theorem own_chg {w w' : World} {B g n : Nat} {v u : Value} {xs : List Value} (h : w.ownsRow B 5 1 u n xs) (hc : Chg w w' g v) (h1 : u.ownBlock ≠ some g) (h2 : u.ownBlock = none ∨ u.ownBlock ≠ v.ownBlock) : w'.ownsRow B 5 1 u n xs := by
  refine ⟨h.1, ?_⟩
  rcases h.2 with h0 | ⟨k, c, cur, rfl, a1, a2, a3⟩
  · exact .inl h0
  · refine .inr ⟨k, c, cur, rfl, a1, ?_, a3⟩
    have e : (Value.slice (some ⟨k, 0, none⟩) n c).ownBlock = some k := rfl
    rw [e] at h1 h2
    rw [hc.block k (heap_lt a2) (fun e => h1 (by rw [e])) (by rcases h2 with h2 | h2; simp at h2; exact h2)]
    exact a2
theorem wrt_grown {w w' : World} {B g : Nat} {S : Option Text} {v : Value} {row : Option Nat} (h : Wrt w B g S v) (hg : w.grownBy w' row) (h1 : row ≠ some g) (h2 : v.ownBlock = none ∨ v.ownBlock ≠ row) : Wrt w' B g S v :=
  ⟨(hg.block g h.lt (fun e => h1 e.symm)).trans h.1, h.2.1, h.2.2.1.kept hg h2, h.2.2.2⟩

/-- what the statement has as it goes: a writer, and the document's bytes, that lie elsewhere -/
def Both (w0 : World) (g : Nat) (S : Option Text) (v u : Value) (J : Text) (w : World) : Prop :=
  Wrt w w0.heap.size g S v ∧ w.ownsRow w0.heap.size 5 1 u J.length (J.map cellOf) ∧ u.ownBlock ≠ some g ∧ (u.ownBlock = none ∨ u.ownBlock ≠ v.ownBlock) ∧ (∀ T, S = some T → J = T) ∧ Below w0.heap.size w0 w
theorem both_put {w0 w w' : World} {g : Nat} {S d : Option Text} {v u v' : Value} {J : Text} (h : Both w0 g S v u J w) (h1 : Wrt w' w0.heap.size g (nextS S d) v') (h2 : Chg w w' g v) (h3 : v'.ownBlock = v.ownBlock ∨ v'.ownBlock = none ∨ ∃ k, v'.ownBlock = some k ∧ w.heap.size ≤ k) :
    Wrt w' w0.heap.size g (nextS S d) v' ∧ w'.ownsRow w0.heap.size 5 1 u J.length (J.map cellOf) ∧ u.ownBlock ≠ some g ∧ (u.ownBlock = none ∨ u.ownBlock ≠ v'.ownBlock) ∧ Below w0.heap.size w0 w' := by
  obtain ⟨a, b, c, e, f, i⟩ := h
  refine ⟨h1, own_chg b h2 c e, c, ?_, i.trans (h2.below a i.size)⟩
  rcases h3 with h3 | h3 | ⟨k, h3, hk⟩
  · rw [h3]; exact e
  · rw [h3]
    rcases hu : u.ownBlock with _ | j
    · exact .inl rfl
    · exact .inr (by simp)
  · rw [h3]
    rcases hu : u.ownBlock with _ | j
    · exact .inl rfl
    · have := (b.lt j hu).2
      exact .inr (by simp; omega)
theorem both_below {w0 w w' : World} {g : Nat} {S : Option Text} {v u : Value} {J : Text} (h : Both w0 g S v u J w) (hb : Below w.heap.size w w') : Both w0 g S v u J w' :=
  ⟨h.1.below hb, own_below h.2.1 hb, h.2.2.1, h.2.2.2.1, h.2.2.2.2.1, below_tr h.2.2.2.2.2 hb (Nat.le_refl _)⟩
theorem both_append {w0 w w' : World} {g : Nat} {S : Option Text} {v u u' : Value} {J l : Text}
    (h : Wrt w w0.heap.size g S v ∧ w.ownsRow w0.heap.size 5 1 u J.length (J.map cellOf) ∧ u.ownBlock ≠ some g ∧ (u.ownBlock = none ∨ u.ownBlock ≠ v.ownBlock) ∧ Below w0.heap.size w0 w)
    (h1 : w'.ownsRow w0.heap.size 5 1 u' (J.length + l.length) (J.map cellOf ++ l.map cellOf)) (h2 : w.grownBy w' u.ownBlock) (h3 : u'.ownBlock = u.ownBlock ∨ u'.ownBlock = some w.heap.size) (h4 : ∀ T, S = some T → J ++ l = T) : Both w0 g S v u' (J ++ l) w' := by
  obtain ⟨a, b, c, e, i⟩ := h
  have hv : v.ownBlock = none ∨ v.ownBlock ≠ u.ownBlock := by
    rcases e with e | e
    · rcases hq : v.ownBlock with _ | j
      · exact .inl rfl
      · exact .inr (by rw [e]; simp)
    · exact .inr (fun h => e h.symm)
  refine ⟨wrt_grown a h2 c hv, by rw [List.length_append, List.map_append]; exact h1, ?_, ?_, h4, i.grown h2 i.size (fun k hk => (b.lt k hk).1)⟩
  · rcases h3 with h3 | h3
    · rw [h3]; exact c
    · rw [h3]; have := a.lt; simp; omega
  · rcases h3 with h3 | h3
    · rw [h3]; exact e
    · right
      rw [h3]
      intro hq
      have := (a.2.2.1.lt _ hq.symm).2
      omega
theorem next_text {S d : Option Text} {J : Text} (h : ∀ T, S = some T → J = T) : ∀ T, nextS S d = some T → J ++ d.getD [] = T := by
  intro T hT
  cases S with
  | none => simp [nextS] at hT
  | some T0 =>
    cases d with
    | none => simp [nextS] at hT
    | some l =>
      have := h T0 rfl
      subst this
      simpa [nextS] using hT
theorem next_some (S d : Option Text) : (nextS S d).isSome = (S.isSome && d.isSome) := by cases S <;> cases d <;> rfl
theorem next_len {S d : Option Text} {k : Nat} (h : (S.getD []).length ≤ 70000 * k) (hd : (d.getD []).length ≤ 70000) : ((nextS S d).getD []).length ≤ 70000 * (k + 1) := by
  cases S <;> cases d <;> simp [nextS] at *
  omega

set_option maxRecDepth 100000 in
set_option maxHeartbeats 8000000 in
theorem blobWrites_light (L : List OpV) (A : Option Addr) (cap : Nat) (w : World) (hm : L.length ≤ 100) (hO : Ops w A L) (hL : light L = true) :
    Calls Try.prog 3 #[.slice A L.length cap] w fun e w' => e = .returned (.bool true) ∧ Below w.heap.size w w' := by
  have HO := Lib.hid hO
  have HL : Hid (Calls Try.prog 13 #[.slice A L.length cap] w fun e w' => e = .returned (.bool true) ∧ Below w.heap.size w w') := Lib.hid (by
    have := law_light L A cap w (by omega) hO
    rw [hL] at this
    exact this)
  clear hO hL
  go_enter Try.func3, Try.ntmps3
  go_wp2_with (first
    | (go_at_call 13; refine HL.out.mono ?_; rintro e w1 ⟨rfl, hb1⟩; have HB1 := Lib.hid hb1; clear hb1)
    | (go_at_call 15; refine (new_any w1).mono ?_; rintro e w2 ⟨rfl, rfl⟩))
  have HS : Hid (Both w w1.heap.size (some []) (.slice none 0 0) (.slice none 0 0) [] (w1.alloc (.cells #[.bool true, .bool false, .slice none 0 0] 49))) := Lib.hid
    ⟨new_wrt w1 _ HB1.out.size, World.ownsRow_nil _ _ _ _, by simp [Value.ownBlock], .inl rfl, (fun T hT => by injection hT), HB1.out.alloc HB1.out.size _⟩
  generalize w1.heap.size = g at *
  go_loopw [3, 4, 5, 19] (fun p u r i wr => ∃ (k : Nat) (S : Option Text) (v : Value) (J : Text), k ≤ L.length ∧ p = .pointer (some ⟨g, 0, none⟩) ∧ r = .bool S.isSome ∧ i = .int .i64 k ∧ Hid (J.length ≤ 70000 * k ∧ (S.getD []).length ≤ 70000 * k) ∧ Hid (Both w g S v u J wr)) (fun _ _ _ i _ => L.length - (intOf i).toNat)
  case atStart => exact ⟨0, some [], .slice none 0 0, [], Nat.zero_le _, rfl, rfl, rfl, Lib.hid ⟨by simp, by simp⟩, HS⟩
  case round =>
    obtain ⟨k, S, v, J, hk, rfl, rfl, rfl, HJ, HW⟩ := hrel
    by_cases hlt : k < L.length
    · obtain ⟨b, off, rfl, hbl, c0, c1, c2, c3, hg⟩ := (HO.out.below HW.out.2.2.2.2.2) k hlt
      obtain ⟨o, ho⟩ : ∃ o, o = L[k] := ⟨_, rfl⟩
      rw [← ho] at c0 c1 c2 c3 hg
      have HG := Lib.hid hg
      clear ho hg
      obtain ⟨A1, q1, rfl, ht1, hn1⟩ := own_txt HW.out.2.1
      clear ht1 hn1
      have HDl := Lib.hid (docO_len o HG.out)
      have HPut : Hid (∀ W v, Wrt W w.heap.size g S v → w.heap.size ≤ W.heap.size → Calls Try.prog 16 #[.pointer (some ⟨g, 0, none⟩), .agg #[.int .i64 o.k, .int .i64 o.n, .string o.s, .bool o.b]] W (Put W w.heap.size g S v (docO o))) := Lib.hid (fun W v hW hB =>
        law_put o W w.heap.size g S v hW hB HG.out (by have := HJ.out.2; omega))
      have HDoc : Hid (∀ W, Calls Try.prog 17 #[.agg #[.int .i64 o.k, .int .i64 o.n, .string o.s, .bool o.b]] W (DocB W (docO o))) := Lib.hid (fun W => law_doc o W HG.out)
      generalize docO o = d at *
      clear HG
      cases S with
      | none =>
        go_wp2_with (first
          | (go_at_call 16; refine (HPut.out _ v (HW.out.1.below ((Below.refl _ _).alloc (Nat.le_refl _) _)) ?a1).mono ?_; (case a1 => exact Nat.le_trans HW.out.2.2.2.2.2.size (by simp)); rintro e w2 ⟨rfl, v2, hw2, hc2, hv2⟩; have hblk : w2.heap[wr.heap.size]? = some (.cells #[.int .i64 o.k, .int .i64 o.n, .string o.s, .bool o.b] 29 (0, 0)) := (by rw [hc2.block wr.heap.size (by simp) (by have := HW.out.1.lt; omega) (by intro hq; have := (HW.out.1.2.2.1.lt _ hq.symm).2; omega)]; exact heap_alloc_new wr _); have e0 := cell_of_row w2 wr.heap.size 0 _ _ _ hblk; have e1 := cell_of_row w2 wr.heap.size 1 _ _ _ hblk; have e2 := cell_of_row w2 wr.heap.size 2 _ _ _ hblk; have e3 := cell_of_row w2 wr.heap.size 3 _ _ _ hblk; simp only [List.getElem?_toArray, List.getElem?_cons_zero, List.getElem?_cons_succ] at e0 e1 e2 e3; have HP := Lib.hid (both_put (both_below HW.out ((Below.refl _ _).alloc (Nat.le_refl _) _)) hw2 hc2 hv2); clear hw2 hc2 hv2 hblk)
          | (go_at_call 17; refine (HDoc.out w2).mono ?_; rintro e w3 ⟨hb3, A3, q3, rfl, ht3, hn3⟩; have HT3 := Lib.hid ht3; have HN3 := Lib.hid hn3; have HP3 := Lib.hid (And.intro (HP.out.1.below hb3) (And.intro (own_below HP.out.2.1 hb3) (And.intro HP.out.2.2.1 (And.intro HP.out.2.2.2.1 (below_tr HP.out.2.2.2.2 hb3 (Nat.le_refl _)))))); clear hb3 ht3 hn3)
          | (refine wpList_append_text (o := ⟨some 35, _, _, _, _, _⟩) rfl _ _ rfl rfl w.heap.size _ J.length (J.map cellOf) rfl HP3.out.2.1 A3 q3 (d.getD []) rfl HT3.out HN3.out ?b1 ?b2 ?_; (case b1 => have := HJ.out.1; have := HDl.out; omega); (case b2 => exact HP3.out.2.2.2.2.size); intro u4 w4 hown4 hg4 hat4; have HF := Lib.hid (both_append HP3.out hown4 hg4 hat4 (next_text HW.out.2.2.2.2.1)); obtain ⟨A4, n4, c4, rfl⟩ := own_slice hown4; clear hown4 hg4 hat4))
        go_roundw
        case rel => exact ⟨k + 1, nextS none d, v2, J ++ d.getD [], by omega, rfl, by rw [next_some]; rfl, by go_num, Lib.hid ⟨by have := HJ.out.1; have := HDl.out; rw [List.length_append]; omega, next_len HJ.out.2 HDl.out⟩, HF⟩
        case measure => simp [intOf]; omega
      | some T =>
        go_wp2_with (first
          | (go_at_call 16; refine (HPut.out _ v (HW.out.1.below ((Below.refl _ _).alloc (Nat.le_refl _) _)) ?a1).mono ?_; (case a1 => exact Nat.le_trans HW.out.2.2.2.2.2.size (by simp)); rintro e w2 ⟨rfl, v2, hw2, hc2, hv2⟩; have hblk : w2.heap[wr.heap.size]? = some (.cells #[.int .i64 o.k, .int .i64 o.n, .string o.s, .bool o.b] 29 (0, 0)) := (by rw [hc2.block wr.heap.size (by simp) (by have := HW.out.1.lt; omega) (by intro hq; have := (HW.out.1.2.2.1.lt _ hq.symm).2; omega)]; exact heap_alloc_new wr _); have e0 := cell_of_row w2 wr.heap.size 0 _ _ _ hblk; have e1 := cell_of_row w2 wr.heap.size 1 _ _ _ hblk; have e2 := cell_of_row w2 wr.heap.size 2 _ _ _ hblk; have e3 := cell_of_row w2 wr.heap.size 3 _ _ _ hblk; simp only [List.getElem?_toArray, List.getElem?_cons_zero, List.getElem?_cons_succ] at e0 e1 e2 e3; have HP := Lib.hid (both_put (both_below HW.out ((Below.refl _ _).alloc (Nat.le_refl _) _)) hw2 hc2 hv2); clear hw2 hc2 hv2 hblk)
          | (go_at_call 17; refine (HDoc.out w2).mono ?_; rintro e w3 ⟨hb3, A3, q3, rfl, ht3, hn3⟩; have HT3 := Lib.hid ht3; have HN3 := Lib.hid hn3; have HP3 := Lib.hid (And.intro (HP.out.1.below hb3) (And.intro (own_below HP.out.2.1 hb3) (And.intro HP.out.2.2.1 (And.intro HP.out.2.2.2.1 (below_tr HP.out.2.2.2.2 hb3 (Nat.le_refl _)))))); clear hb3 ht3 hn3)
          | (refine wpList_append_text (o := ⟨some 35, _, _, _, _, _⟩) rfl _ _ rfl rfl w.heap.size _ J.length (J.map cellOf) rfl HP3.out.2.1 A3 q3 (d.getD []) rfl HT3.out HN3.out ?b1 ?b2 ?_; (case b1 => have := HJ.out.1; have := HDl.out; omega); (case b2 => exact HP3.out.2.2.2.2.size); intro u4 w4 hown4 hg4 hat4; have HF := Lib.hid (both_append HP3.out hown4 hg4 hat4 (next_text HW.out.2.2.2.2.1)); obtain ⟨A4, n4, c4, rfl⟩ := own_slice hown4; clear hown4 hg4 hat4))
        go_roundw
        case rel => exact ⟨k + 1, nextS (some T) d, v2, J ++ d.getD [], by omega, rfl, by rw [next_some]; rfl, by go_num, Lib.hid ⟨by have := HJ.out.1; have := HDl.out; rw [List.length_append]; omega, next_len HJ.out.2 HDl.out⟩, HF⟩
        case measure => simp [intOf]; omega
    · obtain rfl : k = L.length := by omega
      have hTs := HW.out.2.2.2.2.1
      obtain ⟨A1, q1, rfl, ht1, hn1⟩ := own_txt HW.out.2.1
      have HT1 := Lib.hid ht1
      have HN1 := Lib.hid hn1
      have HBy : Hid (Calls Try.prog 18 #[.pointer (some ⟨g, 0, none⟩)] wr (Bytes wr S)) := Lib.hid (code_bytes wr w.heap.size g S v HW.out.1 (by have := HJ.out.2; omega))
      clear ht1 hn1
      cases S with
      | none =>
        clear hTs
        go_wp2_with (first
          | (go_at_call 18; refine HBy.out.mono ?_; rintro e w5 ⟨hb5, A5, c5, rfl, ht5, hn5⟩; have HB5 := Lib.hid (below_tr HW.out.2.2.2.2.2 hb5 (Nat.le_refl _)); clear hb5 ht5 hn5)
          | (go_at_call 14; refine (lives_any _).mono ?_; rintro e w6 ⟨rfl, hb6⟩))
        go_ret
        exact ⟨rfl, below_tr HB5.out hb6 (Nat.le_refl _)⟩
      | some T =>
        have hJT := hTs T rfl
        subst hJT
        clear hTs
        go_wp2_with (first
          | (go_at_call 18; refine HBy.out.mono ?_; rintro e w5 ⟨hb5, A5, c5, rfl, ht5, hn5⟩; have hs5 := text_run w5 A5 c5 J ht5 hn5; have hs1 := text_run w5 A1 q1 J (HT1.out.below hb5) HN1.out; have HB5 := Lib.hid (below_tr HW.out.2.2.2.2.2 hb5 (Nat.le_refl _)); clear hb5 ht5 hn5)
          | (go_at_call 14; refine (lives_any _).mono ?_; rintro e w6 ⟨rfl, hb6⟩))
        go_ret
        exact ⟨rfl, below_tr HB5.out hb6 (Nat.le_refl _)⟩

theorem light_len {L : List OpV} (h : light L = true) : L.length ≤ 100 := by
  unfold light at h
  rw [Bool.and_eq_true] at h
  exact of_decide_eq_true h.2
set_option maxHeartbeats 1000000 in
theorem blobWrites_any (L : List OpV) (A : Option Addr) (cap : Nat) (w : World) (hm : L.length ≤ 9223372036854775807) (hO : Ops w A L) :
    Calls Try.prog 3 #[.slice A L.length cap] w fun e w' => e = .returned (.bool true) ∧ Below w.heap.size w w' := by
  cases hL : light L with
  | true => exact blobWrites_light L A cap w (light_len hL) hO hL
  | false =>
    have HL : Hid (Calls Try.prog 13 #[.slice A L.length cap] w fun e w' => e = .returned (.bool false) ∧ Below w.heap.size w w') := Lib.hid (by
      have := law_light L A cap w hm hO
      rw [hL] at this
      exact this)
    clear hL hO
    go_enter Try.func3, Try.ntmps3
    go_wp2_with (first
      | (go_at_call 13; refine HL.out.mono ?_; rintro e w1 ⟨rfl, hb1⟩)
      | (go_at_call 14; refine (lives_any _).mono ?_; rintro e w6 ⟨rfl, hb6⟩))
    go_ret
    exact ⟨rfl, below_tr hb1 hb6 (Nat.le_refl _)⟩
end Go.Proofs.Ytfppbmendhpjcaa
