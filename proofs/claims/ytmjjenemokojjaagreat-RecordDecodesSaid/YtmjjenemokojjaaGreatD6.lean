/- What a writer's calls leave; its bytes told; the statements' example. A writer's bytes told; the statements' example. Regions that draw their order: two or three that may come up next. Rows of lines: are they the same? -/
import Derived.Test.YtmjjenemokojjaaGreatD4
import Derived.Test.YtmjjenemokojjaaGreatD2
import Derived.Test.YtmjjenemokojjaaGreatD3
namespace Go.Proofs.YtmjjenemokojjaaGreat
open Go.RowKit
set_option maxRecDepth 100000

/-- a number's bytes; the least has none -/
def docN (n : Int) : Option Text := if n = -9223372036854775808 then none else some (if n < 0 then Blob.numT 128 (-n).toNat else Blob.numT 0 n.toNat)
/-- a text's bytes; too long a one has none -/
def docS (s : ByteArray) : Option Text := if 65536 < s.size then none else some (textT s)
/-- what a call for bytes leaves -/
def Doc (w : World) (d : Option Text) (e : Ending) (w' : World) : Prop := match d with
 | some l => MadeB w l e w'
 | none => e = .returned (.tuple #[.slice none 0 0, .bool false]) ∧ w = w'

theorem code_numD (n : Int) (w : World) (h1 : -9223372036854775808 ≤ n) (h2 : n ≤ 9223372036854775807) : Calls Tryz.prog 93 #[.int .i64 n] w (Doc w (docN n)) := by
 unfold docN
 by_cases h : n = -9223372036854775808
 · rw [if_pos h, h]; exact code_num_min w
 · rw [if_neg h]
   by_cases h0 : n < 0
   · rw [if_pos h0]
     have := code_num_neg (-n).toNat w (by omega) (by omega)
     rw [show -(((-n).toNat : Nat) : Int) = n by omega] at this
     exact this
   · rw [if_neg h0]
     have := code_num_pos n.toNat w (by omega)
     rw [show ((n.toNat : Nat) : Int) = n by omega] at this
     exact this
theorem code_textD (s : ByteArray) (w : World) (h : s.size ≤ 9223372036854775807) : Calls Tryz.prog 94 #[.string s] w (Doc w (docS s)) := by
 unfold docS
 by_cases h0 : 65536 < s.size
 · rw [if_pos h0]; exact code_text_no s w h0 h
 · rw [if_neg h0]; exact code_text s w (by omega)
theorem docN_len (n : Int) (h1 : -9223372036854775808 ≤ n) (h2 : n ≤ 9223372036854775807) : ((docN n).getD []).length ≤ 70000 := by
 unfold docN
 by_cases h : n = -9223372036854775808
 · rw [if_pos h]; simp
 · rw [if_neg h]
   by_cases h0 : n < 0
   · rw [if_pos h0]; have := num_len 128 (-n).toNat (by omega); simp only [Option.getD_some]; omega
   · rw [if_neg h0]; have := num_len 0 n.toNat (by omega); simp only [Option.getD_some]; omega
theorem docS_len (s : ByteArray) : ((docS s).getD []).length ≤ 70000 := by
 unfold docS
 by_cases h0 : 65536 < s.size
 · rw [if_pos h0]; simp
 · rw [if_neg h0]
   have := num_len 0 s.size (by omega)
   simp only [Option.getD_some, textT, List.length_append, strT_length]; omega

theorem Put.later {w w1 w' : World} {B g : Nat} {S d : Option Text} {v : Value} {e : Ending} (h : Put w1 B g S v d e w') (hb : Below w.heap.size w w1) : Put w B g S v d e w' := by
 obtain ⟨h1, v', h2, h3, h4⟩ := h
 refine ⟨h1, v', h2, (Chg.of_below hb).trans h3, ?_⟩
 rcases h4 with h | h | ⟨k, h, hk⟩
 · exact .inl h
 · exact .inr (.inl h)
 · exact .inr (.inr ⟨k, h, Nat.le_trans hb.size hk⟩)
/-- whatever bytes there are, or none, a writer puts them so -/
theorem put_any (w : World) (B g : Nat) (S : Option Text) (v : Value) (l : Text) (A : Option Addr) (c : Nat) (hw : Wrt w B g S v) (hB : B ≤ w.heap.size) (hT : Txt w A l) (hA : A = none → l = []) (h63 : (S.getD []).length + l.length ≤ 140737488355328) :
 Calls Tryz.prog 92 #[.pointer (some ⟨g, 0, none⟩), .slice A l.length c, .bool true] w (Put w B g S v (some l)) := by
 cases S with
 | none => exact put_bad w B g none v A l.length c true hw (.inl rfl) (some l) rfl
 | some T => exact put_ok w B g T l v A c hw hB hT hA h63
theorem put_none (w : World) (B g : Nat) (S : Option Text) (v : Value) (hw : Wrt w B g S v) :
 Calls Tryz.prog 92 #[.pointer (some ⟨g, 0, none⟩), .slice none 0 0, .bool false] w (Put w B g S v none) :=
 put_bad w B g S v none 0 0 false hw (.inr rfl) none (by cases S <;> rfl)

set_option maxHeartbeats 1000000 in
theorem code_wnum (n : Int) (w : World) (B g : Nat) (S : Option Text) (v : Value) (hw : Wrt w B g S v) (hB : B ≤ w.heap.size) (h1 : -9223372036854775808 ≤ n) (h2 : n ≤ 9223372036854775807) (hS : (S.getD []).length ≤ 140737488000000) :
 Calls Tryz.prog 66 #[.pointer (some ⟨g, 0, none⟩), .int .i64 n] w (Put w B g S v (docN n)) := by
 have HC := code_numD n w h1 h2
 have hl := docN_len n h1 h2
 clear h1 h2
 cases hd : docN n with
 | none =>
   rw [hd] at HC
   have HC := Lib.hid HC
   have HP := Lib.hid (put_none w B g S v hw)
   clear hd hl hS hw
   go_enter Tryz.func66, Tryz.ntmps66
   go_wp2_with (first
    | (go_at_call 93; refine HC.out.mono ?_; rintro e w1 ⟨rfl, rfl⟩)
    | (go_at_call 92; refine HP.out.mono ?_; rintro e w2 hput; obtain ⟨rfl, hput2⟩ := id hput; have HQ := Lib.hid hput; clear hput hput2))
   go_ret
   exact HQ.out
 | some l =>
   rw [hd] at HC hl
   have HC := Lib.hid HC
   have HP : Hid (∀ w1 A c, Below w.heap.size w w1 → Txt w1 A l → (A = none → l = []) → Calls Tryz.prog 92 #[.pointer (some ⟨g, 0, none⟩), .slice A l.length c, .bool true] w1 (Put w B g S v (some l))) := Lib.hid (fun w1 A c hb hT hA =>
    (put_any w1 B g S v l A c (hw.below hb) (Nat.le_trans hB hb.size) hT hA (by simp only [Option.getD_some] at hl; omega)).mono fun e w' h => h.later hb)
   clear hd hl hS hw
   go_enter Tryz.func66, Tryz.ntmps66
   go_wp2_with (first
    | (go_at_call 93; refine HC.out.mono ?_; rintro e w1 ⟨g1, c1, rfl, ho1, hb1⟩; have HO1 := Lib.hid ho1; have HB1 := Lib.hid hb1; clear ho1 hb1)
    | (go_at_call 92; refine (HP.out w1 _ _ HB1.out (.of_own HO1.out) (by simp)).mono ?_; rintro e w2 hput; obtain ⟨rfl, hput2⟩ := id hput; have HQ := Lib.hid hput; clear hput hput2))
   go_ret
   exact HQ.out
set_option maxHeartbeats 1000000 in
theorem code_wtext (s : ByteArray) (w : World) (B g : Nat) (S : Option Text) (v : Value) (hw : Wrt w B g S v) (hB : B ≤ w.heap.size) (h1 : s.size ≤ 9223372036854775807) (hS : (S.getD []).length ≤ 140737488000000) :
 Calls Tryz.prog 67 #[.pointer (some ⟨g, 0, none⟩), .string s] w (Put w B g S v (docS s)) := by
 have HC := code_textD s w h1
 have hl := docS_len s
 clear h1
 cases hd : docS s with
 | none =>
   rw [hd] at HC
   have HC := Lib.hid HC
   have HP := Lib.hid (put_none w B g S v hw)
   clear hd hl hS hw
   go_enter Tryz.func67, Tryz.ntmps67
   go_wp2_with (first
    | (go_at_call 94; refine HC.out.mono ?_; rintro e w1 ⟨rfl, rfl⟩)
    | (go_at_call 92; refine HP.out.mono ?_; rintro e w2 hput; obtain ⟨rfl, hput2⟩ := id hput; have HQ := Lib.hid hput; clear hput hput2))
   go_ret
   exact HQ.out
 | some l =>
   rw [hd] at HC hl
   have HC := Lib.hid HC
   have HP : Hid (∀ w1 A c, Below w.heap.size w w1 → Txt w1 A l → (A = none → l = []) → Calls Tryz.prog 92 #[.pointer (some ⟨g, 0, none⟩), .slice A l.length c, .bool true] w1 (Put w B g S v (some l))) := Lib.hid (fun w1 A c hb hT hA =>
    (put_any w1 B g S v l A c (hw.below hb) (Nat.le_trans hB hb.size) hT hA (by simp only [Option.getD_some] at hl; omega)).mono fun e w' h => h.later hb)
   clear hd hl hS hw
   go_enter Tryz.func67, Tryz.ntmps67
   go_wp2_with (first
    | (go_at_call 94; refine HC.out.mono ?_; rintro e w1 ⟨g1, c1, rfl, ho1, hb1⟩; have HO1 := Lib.hid ho1; have HB1 := Lib.hid hb1; clear ho1 hb1)
    | (go_at_call 92; refine (HP.out w1 _ _ HB1.out (.of_own HO1.out) (by simp)).mono ?_; rintro e w2 hput; obtain ⟨rfl, hput2⟩ := id hput; have HQ := Lib.hid hput; clear hput hput2))
   go_ret
   exact HQ.out
theorem flag_len (b : Bool) : (flagT b).length = 1 := by cases b <;> rfl
set_option maxHeartbeats 1000000 in
theorem code_wflag (b : Bool) (w : World) (B g : Nat) (S : Option Text) (v : Value) (hw : Wrt w B g S v) (hB : B ≤ w.heap.size) (hS : (S.getD []).length ≤ 140737488000000) :
 Calls Tryz.prog 95 #[.pointer (some ⟨g, 0, none⟩), .bool b] w (Put w B g S v (some (flagT b))) := by
 have HC := Lib.hid (code_flag b w)
 obtain ⟨l, hl⟩ : ∃ l, l = flagT b := ⟨_, rfl⟩
 have hll : l.length = 1 := by rw [hl, flag_len]
 rw [← hl] at HC ⊢
 have HP : Hid (∀ w1 A c, Below w.heap.size w w1 → Txt w1 A l → (A = none → l = []) → Calls Tryz.prog 92 #[.pointer (some ⟨g, 0, none⟩), .slice A l.length c, .bool true] w1 (Put w B g S v (some l))) := Lib.hid (fun w1 A c hb hT hA =>
  (put_any w1 B g S v l A c (hw.below hb) (Nat.le_trans hB hb.size) hT hA (by omega)).mono fun e w' h => h.later hb)
 clear hl hS hw hll
 go_enter Tryz.func95, Tryz.ntmps95
 go_wp2_with (first
  | (go_at_call 114; refine HC.out.mono ?_; rintro e w1 ⟨g1, c1, rfl, ho1, hb1⟩; have HO1 := Lib.hid ho1; have HB1 := Lib.hid hb1; clear ho1 hb1)
  | (go_at_call 92; refine (HP.out w1 _ _ HB1.out (.of_own HO1.out) (by simp)).mono ?_; rintro e w2 hput; obtain ⟨rfl, hput2⟩ := id hput; have HQ := Lib.hid hput; clear hput hput2))
 go_ret
 exact HQ.out
end Go.Proofs.YtmjjenemokojjaaGreat

namespace Go.Proofs.YtmjjenemokojjaaGreat
open Go.RowKit
set_option maxRecDepth 100000

/-- a text told, wherever it lies -/
def Told (w : World) (T : Text) (e : Ending) (w' : World) : Prop := ∃ A c, e = .returned (.slice A T.length c) ∧ Txt w' A T ∧ (A = none → T = []) ∧ Below w.heap.size w w'
set_option maxHeartbeats 1000000 in
theorem code_clone (T : Text) (A : Option Addr) (cap : Nat) (w : World) (hm : T.length ≤ 140737488351232) (hT : Txt w A T) (hA : A = none → T = []) :
 Calls Tryz.prog 69 #[.slice A T.length cap] w (Told w T) := by
 have hnil := fun (W : World) (A : Option Addr) => Lib.run_eql_slice_nil (P := Tryz.prog) W 36 5 A T.length cap 0 0 Tryz.underlying36
 cases A with
 | none =>
   have HA : Hid (T = []) := Lib.hid (hA rfl)
   clear hT hA
   go_enter Tryz.func69, Tryz.ntmps69
   go_wp2
   go_ret
   exact ⟨none, 0, by rw [HA.out]; rfl, by rw [HA.out]; exact Txt.none_, fun _ => HA.out, Below.refl _ _⟩
 | some a =>
   have HT := Lib.hid (hT.alloc (.cells #[] 5))
   have HO := Lib.hid (empty_own w)
   have HB0 := Lib.hid ((Below.refl w.heap.size w).alloc (Nat.le_refl _) (.cells #[] 5))
   clear hT hA
   go_enter Tryz.func69, Tryz.ntmps69
   go_wp2_with (refine wpList_append_own_text (o := ⟨some 7, _, _, _, _, _⟩) rfl _ _ rfl rfl w.heap.size w _ [] T T rfl HO.out (some a) cap rfl HT.out ?c0 ?c1 HB0.out ?c2 rfl ?_; (case c0 => simp); (case c1 => simp; omega); (case c2 => simp); intro v1 w1 hown1 hb1 hv1; obtain ⟨A1, c1, rfl, ht1, hn1⟩ := own_txt hown1; have HT1 := Lib.hid ht1; have HN1 := Lib.hid hn1; have HB1 := Lib.hid hb1; clear hown1 hb1 hv1 ht1 hn1)
   go_ret
   exact ⟨A1, c1, rfl, HT1.out, HN1.out, HB1.out⟩

/-- what Bytes tells of a writer -/
def Bytes (w : World) (S : Option Text) (e : Ending) (w' : World) : Prop :=
 Below w.heap.size w w' ∧ ∃ A c, e = .returned (.tuple #[.slice A (S.getD []).length c, .int .i64 (if S.isNone then 2 else 0)]) ∧ Txt w' A (S.getD []) ∧ (A = none → S.getD [] = [])
set_option maxHeartbeats 1000000 in
theorem code_bytes (w : World) (B g : Nat) (S : Option Text) (v : Value) (hw : Wrt w B g S v) (hS : (S.getD []).length ≤ 140737488000000) :
 Calls Tryz.prog 40 #[.pointer (some ⟨g, 0, none⟩)] w (Bytes w S) := by
 have h0 := cell_of_row w g 0 _ _ _ hw.1
 have h1 := cell_of_row w g 1 _ _ _ hw.1
 have h2 := cell_of_row w g 2 _ _ _ hw.1
 simp only [List.getElem?_toArray, List.getElem?_cons_zero, List.getElem?_cons_succ] at h0 h1 h2
 cases S with
 | none =>
   simp only [Option.isNone_none] at h1
   clear hw hS
   go_enter Tryz.func40, Tryz.ntmps40
   go_wp2
   go_ret2
   exact ⟨Below.refl _ _, none, 0, rfl, Txt.none_, fun _ => rfl⟩
 | some T =>
   simp only [Option.isNone_some] at h1
   obtain ⟨A1, c1, rfl, ht1, hn1⟩ := own_txt hw.2.2.1
   have HC := Lib.hid (code_clone T A1 c1 w (by simp only [Option.getD_some] at hS; omega) ht1 hn1)
   simp only [Option.getD_some] at h2
   clear hw hS ht1 hn1
   go_enter Tryz.func40, Tryz.ntmps40
   go_wp2_with (go_at_call 69; refine HC.out.mono ?_; rintro e w1 ⟨A2, c2, rfl, ht2, hn2, hb2⟩; have HT2 := Lib.hid ht2; have HN2 := Lib.hid hn2; have HB2 := Lib.hid hb2; clear ht2 hn2 hb2)
   go_ret2
   exact ⟨HB2.out, A2, c2, rfl, HT2.out, HN2.out⟩

def s1 : Option Text := nextS (some []) (docN 300)
def s2 : Option Text := nextS s1 (docN (-1))
def s3 : Option Text := nextS s2 (docN 0)
def abS : ByteArray := { data := #[97, 98] }
def s4 : Option Text := nextS s3 (docS abS)
def livesT : Text := [2, 1, 44, 129, 1, 0, 1, 2, 97, 98]
theorem s1_eq : s1 = some [2, 1, 44] := by decide +kernel
theorem s2_eq : s2 = some [2, 1, 44, 129, 1] := by decide +kernel
theorem s3_eq : s3 = some [2, 1, 44, 129, 1, 0] := by decide +kernel
theorem s4_eq : s4 = some livesT := by decide +kernel

end Go.Proofs.YtmjjenemokojjaaGreat

namespace Go.Proofs.YtmjjenemokojjaaGreat
open Go.RowKit
set_option maxRecDepth 100000

section
variable {P : Program} {ops : Array Oper} {Q : Exit → Act → World → Prop} {md : Region.Mode} {S : World → Prop}

/-- two that may come up next -/
theorem twoH {i : Nat} {dst : Option Tmp} {op : Op} {ty : TypeId} {pos : String} {after : Array Edge} {guard : Option (Nat × Bool)}
 {i2 : Nat} {dst2 : Option Tmp} {op2 : Op} {ty2 : TypeId} {pos2 : String} {after2 : Array Edge} {guard2 : Option (Nat × Bool)} {fuel : Nat} {listed : Array Bool} {a : Act} {w : World}
 (hi : ops[i]? = some { dst := dst, op := op, type := ty, pos := pos, after := after, guard := guard })
 (hi2 : ops[i2]? = some { dst := dst2, op := op2, type := ty2, pos := pos2, after := after2, guard := guard2 })
 (hr : Region.ready md ops listed = [i, i2])
 (h : ∀ K' : Act → World → Prop, Shut (∀ a w, S w → (S w → wpAnyH P md ops Q S fuel (listed.setIfInBounds i true) a w) → K' a w) →
  if Region.wanted { dst := dst, op := op, type := ty, pos := pos, after := after, guard := guard } (yielded ops a.tmps) = true then
   Oper.wp P { dst := dst, op := op, type := ty, pos := pos, after := after, guard := guard } a w K' Q else K' (a.put dst undef) w)
 (h2 : ∀ K' : Act → World → Prop, Shut (∀ a w, S w → (S w → wpAnyH P md ops Q S fuel (listed.setIfInBounds i2 true) a w) → K' a w) →
  if Region.wanted { dst := dst2, op := op2, type := ty2, pos := pos2, after := after2, guard := guard2 } (yielded ops a.tmps) = true then
   Oper.wp P { dst := dst2, op := op2, type := ty2, pos := pos2, after := after2, guard := guard2 } a w K' Q else K' (a.put dst2 undef) w) :
 wpAnyH P md ops Q S (fuel + 1) listed a w :=
 wpAnyH_ready hr (by simp) (AllReadyH.cons hi h (AllReadyH.cons hi2 h2 AllReadyH.nil))
/-- three that may come up next -/
theorem threeH {i : Nat} {dst : Option Tmp} {op : Op} {ty : TypeId} {pos : String} {after : Array Edge} {guard : Option (Nat × Bool)}
 {i2 : Nat} {dst2 : Option Tmp} {op2 : Op} {ty2 : TypeId} {pos2 : String} {after2 : Array Edge} {guard2 : Option (Nat × Bool)}
 {i3 : Nat} {dst3 : Option Tmp} {op3 : Op} {ty3 : TypeId} {pos3 : String} {after3 : Array Edge} {guard3 : Option (Nat × Bool)} {fuel : Nat} {listed : Array Bool} {a : Act} {w : World}
 (hi : ops[i]? = some { dst := dst, op := op, type := ty, pos := pos, after := after, guard := guard })
 (hi2 : ops[i2]? = some { dst := dst2, op := op2, type := ty2, pos := pos2, after := after2, guard := guard2 })
 (hi3 : ops[i3]? = some { dst := dst3, op := op3, type := ty3, pos := pos3, after := after3, guard := guard3 })
 (hr : Region.ready md ops listed = [i, i2, i3])
 (h : ∀ K' : Act → World → Prop, Shut (∀ a w, S w → (S w → wpAnyH P md ops Q S fuel (listed.setIfInBounds i true) a w) → K' a w) →
  if Region.wanted { dst := dst, op := op, type := ty, pos := pos, after := after, guard := guard } (yielded ops a.tmps) = true then
   Oper.wp P { dst := dst, op := op, type := ty, pos := pos, after := after, guard := guard } a w K' Q else K' (a.put dst undef) w)
 (h2 : ∀ K' : Act → World → Prop, Shut (∀ a w, S w → (S w → wpAnyH P md ops Q S fuel (listed.setIfInBounds i2 true) a w) → K' a w) →
  if Region.wanted { dst := dst2, op := op2, type := ty2, pos := pos2, after := after2, guard := guard2 } (yielded ops a.tmps) = true then
   Oper.wp P { dst := dst2, op := op2, type := ty2, pos := pos2, after := after2, guard := guard2 } a w K' Q else K' (a.put dst2 undef) w)
 (h3 : ∀ K' : Act → World → Prop, Shut (∀ a w, S w → (S w → wpAnyH P md ops Q S fuel (listed.setIfInBounds i3 true) a w) → K' a w) →
  if Region.wanted { dst := dst3, op := op3, type := ty3, pos := pos3, after := after3, guard := guard3 } (yielded ops a.tmps) = true then
   Oper.wp P { dst := dst3, op := op3, type := ty3, pos := pos3, after := after3, guard := guard3 } a w K' Q else K' (a.put dst3 undef) w) :
 wpAnyH P md ops Q S (fuel + 1) listed a w :=
 wpAnyH_ready hr (by simp) (AllReadyH.cons hi h (AllReadyH.cons hi2 h2 (AllReadyH.cons hi3 h3 AllReadyH.nil)))
end

end Go.Proofs.YtmjjenemokojjaaGreat

namespace Go.Proofs.YtmjjenemokojjaaGreat
open Go.RowKit
set_option maxRecDepth 100000
attribute [local go_sem] Oper.semAt_some

theorem below_drawn (w : World) : Below w.heap.size w w.drew := (Below.refl _ w).drew
/-- lines held against each other, field by field -/
def likeL (p q : LineV) : Bool := decide (p.1 = q.1 ∧ p.2.1 = q.2.1 ∧ p.2.2.1.toList = q.2.2.1.toList ∧ p.2.2.2.1.toList = q.2.2.2.1.toList ∧ p.2.2.2.2.1.toList = q.2.2.2.2.1.toList ∧ p.2.2.2.2.2.1 = q.2.2.2.2.2.1 ∧ p.2.2.2.2.2.2.1 = q.2.2.2.2.2.2.1 ∧ p.2.2.2.2.2.2.2.1 = q.2.2.2.2.2.2.2.1 ∧ p.2.2.2.2.2.2.2.2 = q.2.2.2.2.2.2.2.2)
def likes (L M : List LineV) : Bool := L.length == M.length && (L.zip M).all fun x => likeL x.1 x.2
theorem likes_next {L M : List LineV} {k : Nat} (hk : k < L.length) (hm : k < M.length) (h : ((L.zip M).take k).all (fun x => likeL x.1 x.2) = true) (hs : likeL L[k] M[k] = true) : ((L.zip M).take (k + 1)).all (fun x => likeL x.1 x.2) = true := by
 rw [List.take_succ_eq_append_getElem (by rw [List.length_zip]; omega), List.all_append, h]
 simp [hs]
theorem likes_not {L M : List LineV} {k : Nat} (hk : k < L.length) (hm : k < M.length) (hs : likeL L[k] M[k] = false) : likes L M = false := by
 unfold likes
 have h : (L.zip M).all (fun x => likeL x.1 x.2) = false := by
  rw [List.all_eq_false]
  exact ⟨(L.zip M)[k]'(by rw [List.length_zip]; omega), List.getElem_mem _, by simp [hs]⟩
 rw [h, Bool.and_false]
set_option maxHeartbeats 4000000 in
theorem code_equal (A1 : Option Addr) (c1 : Nat) (L : List LineV) (A2 : Option Addr) (c2 : Nat) (M : List LineV) (w : World) (hr1 : RowLineV w A1 L) (hr2 : RowLineV w A2 M) (hl1 : L.length ≤ 140737488351232) (V : Bool) (hV : likes L M = V) :
 Calls Tryz.prog 82 #[.slice A1 L.length c1, .slice A2 M.length c2] w fun e w' => e = .returned (.bool V) ∧ Below w.heap.size w w' := by
 have HR1 := Lib.hid hr1
 have HR2 := Lib.hid hr2
 have HV := Lib.hid hV
 have hli : (L.length : Int) ≤ 140737488351232 := by omega
 clear hr1 hr2 hV
 by_cases hlen : L.length = M.length
 · have hlm : (M.length : Int) = (L.length : Int) := by omega
   have hlm2 : ((L.length : Int) != (M.length : Int)) = false := by simp [hlm]
   have HL := Lib.hid hlen
   clear hlen
   go_enter Tryz.func82, Tryz.ntmps82
   go_wp2
   go_loopw [13] (fun i wr => ∃ (k : Nat), k ≤ L.length ∧ i = .int .i64 k ∧ Hid (((L.zip M).take k).all (fun x => likeL x.1 x.2) = true) ∧ Hid (Below w.heap.size w wr)) (fun i _ => L.length - (intOf i).toNat)
   case atStart => exact ⟨0, Nat.zero_le _, rfl, Lib.hid rfl, Lib.hid (Below.refl _ _)⟩
   case round =>
    obtain ⟨k, hk, rfl, HS, HB⟩ := hrel
    by_cases hlt : k < L.length
    · have hlt' : (k : Int) < (L.length : Int) := by omega
      have hltm : k < M.length := by have := HL.out; omega
      have hltm' : (k : Int) < (M.length : Int) := by omega
      obtain ⟨b1, o1, rfl, hb1, y0, y1, y2, y3, y4, y5, y6, y7, y8⟩ := (HR1.out.on HB.out).at_ k hlt
      obtain ⟨b2, o2, rfl, hb2, z0, z1, z2, z3, z4, z5, z6, z7, z8⟩ := (HR2.out.on HB.out).at_ k hltm
      obtain ⟨p, hp⟩ : ∃ p, p = L[k] := ⟨_, rfl⟩
      obtain ⟨q, hq⟩ : ∃ q, q = M[k] := ⟨_, rfl⟩
      rw [← hp] at y0 y1 y2 y3 y4 y5 y6 y7 y8
      rw [← hq] at z0 z1 z2 z3 z4 z5 z6 z7 z8
      have HP := Lib.hid (And.intro hp hq)
      clear hp hq
      go_wp2
      have HBD := Lib.hid (below_then HB.out (below_drawn _))
      refine wp_region_held_drew (S := fun V => V.cell? ⟨b1, o1 + k * 9, none⟩ = some (.int .i64 p.1) ∧ V.cell? ⟨b1, o1 + k * 9 + 1, none⟩ = some (.int .i64 p.2.1) ∧ V.cell? ⟨b1, o1 + k * 9 + 2, none⟩ = some (.string p.2.2.1) ∧ V.cell? ⟨b1, o1 + k * 9 + 3, none⟩ = some (.string p.2.2.2.1) ∧ V.cell? ⟨b1, o1 + k * 9 + 4, none⟩ = some (.string p.2.2.2.2.1) ∧ V.cell? ⟨b1, o1 + k * 9 + 5, none⟩ = some (.int .i64 p.2.2.2.2.2.1) ∧ V.cell? ⟨b1, o1 + k * 9 + 6, none⟩ = some (.bool p.2.2.2.2.2.2.1) ∧ V.cell? ⟨b1, o1 + k * 9 + 7, none⟩ = some (.int .i64 p.2.2.2.2.2.2.2.1) ∧ V.cell? ⟨b1, o1 + k * 9 + 8, none⟩ = some (.bool p.2.2.2.2.2.2.2.2) ∧ V.cell? ⟨b2, o2 + k * 9, none⟩ = some (.int .i64 q.1) ∧ V.cell? ⟨b2, o2 + k * 9 + 1, none⟩ = some (.int .i64 q.2.1) ∧ V.cell? ⟨b2, o2 + k * 9 + 2, none⟩ = some (.string q.2.2.1) ∧ V.cell? ⟨b2, o2 + k * 9 + 3, none⟩ = some (.string q.2.2.2.1) ∧ V.cell? ⟨b2, o2 + k * 9 + 4, none⟩ = some (.string q.2.2.2.2.1) ∧ V.cell? ⟨b2, o2 + k * 9 + 5, none⟩ = some (.int .i64 q.2.2.2.2.2.1) ∧ V.cell? ⟨b2, o2 + k * 9 + 6, none⟩ = some (.bool q.2.2.2.2.2.2.1) ∧ V.cell? ⟨b2, o2 + k * 9 + 7, none⟩ = some (.int .i64 q.2.2.2.2.2.2.2.1) ∧ V.cell? ⟨b2, o2 + k * 9 + 8, none⟩ = some (.bool q.2.2.2.2.2.2.2.2)) (by kernel_rfl) ⟨y0, y1, y2, y3, y4, y5, y6, y7, y8, z0, z1, z2, z3, z4, z5, z6, z7, z8⟩ ?_
      intro hHeld
      clear y0 y1 y2 y3 y4 y5 y6 y7 y8 z0 z1 z2 z3 z4 z5 z6 z7 z8
      generalize World.drew _ = wd at HBD hHeld ⊢
      (refine takeP (i := 0) ?_ rfl (.inl ⟨by rfl, ?_⟩) ?_; rotate_left; (focus ((intro wS hSw); (try dsimp only at hSw); obtain ⟨s0, s1, s2, s3, s4, s5, s6, s7, s8, s9, s10, s11, s12, s13, s14, s15, s16, s17⟩ := hSw; go_simp; (try with_reducible rfl); done)); (try simp only [Act.put, pA, pB, pC]))
      (refine takeP (i := 1) ?_ rfl (.inl ⟨by rfl, ?_⟩) ?_; rotate_left; (focus ((intro wS hSw); (try dsimp only at hSw); obtain ⟨s0, s1, s2, s3, s4, s5, s6, s7, s8, s9, s10, s11, s12, s13, s14, s15, s16, s17⟩ := hSw; go_simp; (try with_reducible rfl); done)); (try simp only [Act.put, pA, pB, pC]))
      (refine takeP (i := 2) ?_ rfl (.inl ⟨by rfl, ?_⟩) ?_; rotate_left; (focus ((intro wS hSw); (try dsimp only at hSw); obtain ⟨s0, s1, s2, s3, s4, s5, s6, s7, s8, s9, s10, s11, s12, s13, s14, s15, s16, s17⟩ := hSw; go_simp; (try with_reducible rfl); done)); (try simp only [Act.put, pA, pB, pC]))
      (refine takeP (i := 3) ?_ rfl (.inl ⟨by rfl, ?_⟩) ?_; rotate_left; (focus ((intro wS hSw); (try dsimp only at hSw); obtain ⟨s0, s1, s2, s3, s4, s5, s6, s7, s8, s9, s10, s11, s12, s13, s14, s15, s16, s17⟩ := hSw; go_simp; (try with_reducible rfl); done)); (try simp only [Act.put, pA, pB, pC]))
      (refine takeP (i := 4) ?_ rfl (.inl ⟨by rfl, ?_⟩) ?_; rotate_left; (focus ((intro wS hSw); (try dsimp only at hSw); obtain ⟨s0, s1, s2, s3, s4, s5, s6, s7, s8, s9, s10, s11, s12, s13, s14, s15, s16, s17⟩ := hSw; go_simp; (try with_reducible rfl); done)); (try simp only [Act.put, pA, pB, pC]))
      (refine takeP (i := 5) ?_ rfl (.inl ⟨by rfl, ?_⟩) ?_; rotate_left; (focus ((intro wS hSw); (try dsimp only at hSw); obtain ⟨s0, s1, s2, s3, s4, s5, s6, s7, s8, s9, s10, s11, s12, s13, s14, s15, s16, s17⟩ := hSw; go_simp; (try with_reducible rfl); done)); (try simp only [Act.put, pA, pB, pC]))
      (refine takeP (i := 6) ?_ rfl (.inl ⟨by rfl, ?_⟩) ?_; rotate_left; (focus ((intro wS hSw); (try dsimp only at hSw); obtain ⟨s0, s1, s2, s3, s4, s5, s6, s7, s8, s9, s10, s11, s12, s13, s14, s15, s16, s17⟩ := hSw; go_simp; (try with_reducible rfl); done)); (try simp only [Act.put, pA, pB, pC]))
      (refine takeP (i := 7) ?_ rfl (.inl ⟨by rfl, ?_⟩) ?_; rotate_left; (focus ((intro wS hSw); (try dsimp only at hSw); obtain ⟨s0, s1, s2, s3, s4, s5, s6, s7, s8, s9, s10, s11, s12, s13, s14, s15, s16, s17⟩ := hSw; go_simp; (try with_reducible rfl); done)); (try simp only [Act.put, pA, pB, pC]))
      (refine takeH (i := 8) (v := (.bool (!likeL p q))) rfl (by kernel_rfl) (by kernel_rfl) (by kernel_rfl) (fun _ _ _ h => h) (Or.inl ⟨by rfl, by (intro wS hSw); (try dsimp only at hSw); (obtain ⟨s0, s1, s2, s3, s4, s5, s6, s7, s8, s9, s10, s11, s12, s13, s14, s15, s16, s17⟩ := hSw); go_simp; clear s0 s1 s2 s3 s4 s5 s6 s7 s8 s9 s10 s11 s12 s13 s14 s15 s16 s17 HP HR1 HR2 HB HBD hHeld HS HL HV; unfold likeL; (repeat' split) <;> simp_all⟩) (by assumption) ?_; (try simp only [Act.put, pA, pB, pC]))
      refine wpAnyH_done (by kernel_rfl) ?_ _
      clear hHeld
      cases hlk : likeL p q with
      | false =>
        have HN := Lib.hid (likes_not hlt hltm (by rw [← HP.out.1, ← HP.out.2]; exact hlk))
        go_wp2
        go_ret
        exact ⟨by rw [← HV.out, HN.out]; rfl, HBD.out⟩
      | true =>
        have HN := Lib.hid (likes_next hlt hltm HS.out (by rw [← HP.out.1, ← HP.out.2]; exact hlk))
        go_wp2
        go_roundw
        case rel => exact ⟨k + 1, by omega, by go_num, HN, HBD⟩
        case measure => simp [intOf]; omega
    · obtain rfl : k = L.length := by omega
      have HN : Hid (likes L M = true) := Lib.hid (by
       unfold likes
       have h := HS.out
       rw [List.take_of_length_le (by rw [List.length_zip]; omega)] at h
       rw [h, HL.out]
       simp)
      go_wp2
      go_ret
      exact ⟨by rw [← HV.out, HN.out]; rfl, HB.out⟩
 · have hlm2 : ((L.length : Int) != (M.length : Int)) = true := bne_iff_ne.2 (by omega)
   have HN : Hid (likes L M = false) := Lib.hid (by
    unfold likes
    rw [beq_false_of_ne hlen, Bool.false_and])
   clear hlen
   go_enter Tryz.func82, Tryz.ntmps82
   go_wp2
   go_ret
   exact ⟨by rw [← HV.out, HN.out]; rfl, below_same _⟩
end Go.Proofs.YtmjjenemokojjaaGreat
