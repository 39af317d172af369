/- The document's reader: a number, whatever stands there. The document's reader: a text. The document's reader: a text, its ways. What a writer keeps beside a box of the call's own; a year, written. -/
import Derived.Test.YtmjjenemokojjaaGreatD15
import Derived.Test.YtmjjenemokojjaaGreatD21
import Derived.Test.YtmjjenemokojjaaGreatD17
import Derived.Test.YtmjjenemokojjaaGreatD11
import Derived.Test.YtmjjenemokojjaaGreatD6
import Derived.WalkMore
namespace Go.Proofs.YtmjjenemokojjaaGreat
open Go.RowKit
set_option maxRecDepth 100000

theorem sizeP_no {r : Text} {m : Nat} (h : ¬ okS r m) : sizeP r m = none := by unfold sizeP; rw [if_neg h]
theorem sizeP_yes {r : Text} {m : Nat} (h : okS r m) : sizeP r m = some (Blob.val (r.take m), r.drop m) := by unfold sizeP; rw [if_pos h]
theorem numP_no {h : UInt8} {r : Text} (hs : sizeP r (h.toNat % 128) = none) : numP (h :: r) = none := by unfold numP; simp only [hs]
/-- the first byte of eight tells whether a number is too big -/
theorem val_8 (y : UInt8) (l : Text) (hl : l.length = 7) : Blob.val (y :: l) ≤ 9223372036854775807 ↔ y.toNat < 128 := by
 have h1 := val_ge_from l (0 * 256 + y.toNat)
 have h2 := Blob.val_lt_from l (0 * 256 + y.toNat)
 rw [hl] at h1 h2
 have e : Blob.val (y :: l) = l.foldl (fun n c => n * 256 + c.toNat) (0 * 256 + y.toNat) := rfl
 rw [e]
 simp only [Nat.zero_mul, Nat.zero_add] at *
 constructor
 · intro h; omega
 · intro h; omega
theorem val_small (l : Text) (hl : l.length < 8) : Blob.val l ≤ 9223372036854775807 := by
 have h := Blob.val_lt l
 have : 256 ^ l.length ≤ 256 ^ 7 := Nat.pow_le_pow_right (by omega) (by omega)
 omega

theorem doc_num (w : World) (g : Nat) (A : Option Addr) (T : Text) (c at_ : Nat) (bad : Bool) (hr : Drd w g A T c at_ bad) :
 Calls Tryz.prog 77 #[.pointer (some ⟨g, 0, none⟩)] w (DGot w g A T c (.int .i64 0) ((numP (dv T at_ bad)).map fun p => (.int .i64 p.1, p.2))) := by
 cases bad with
 | true => exact dnum_spoilt w g A T c at_ hr
 | false =>
   by_cases hlt : at_ < T.length
   · obtain ⟨a, rfl, hab, hc⟩ := hr.2.2.2.2.2.1.at_ hlt
     rw [dv_at hlt]
     obtain ⟨h, hh⟩ : ∃ h, h = T[at_] := ⟨_, rfl⟩
     rw [← hh] at hc ⊢
     obtain ⟨m, hm⟩ : ∃ m, m = h.toNat % 128 := ⟨_, rfl⟩
     have hx := h.toNat_lt
     have hx2 : h.toNat ≤ 255 := by omega
     have hmi : ((h.toNat : Nat) : Int) % 128 = (m : Int) := by omega
     obtain ⟨rl, hrl⟩ : ∃ rl, T.length = at_ + (rl + 1) := ⟨T.length - at_ - 1, by omega⟩
     have hdl : (T.drop (at_ + 1)).length = rl := by rw [List.length_drop]; omega
     by_cases hA : 8 < m
     · have hs : sizeP (T.drop (at_ + 1)) (h.toNat % 128) = none := sizeP_no (fun hk => by have := hk.1; omega)
       rw [numP_no hs]
       by_cases hn : 128 ≤ h.toNat
       · exact dnum_long_true w g a T c at_ _ m hr hlt hc hmi hx2 hn hA
       · exact dnum_long_false w g a T c at_ _ m hr hlt hc hmi hx2 (by omega) hA
     · by_cases hC : rl < m
       · have hs : sizeP (T.drop (at_ + 1)) (h.toNat % 128) = none := sizeP_no (fun hk => by have := hk.2.1; omega)
         rw [numP_no hs]
         by_cases hn : 128 ≤ h.toNat
         · exact dnum_short_true w g a T c at_ _ m hr hlt hc hmi hx2 ⟨hn, by omega⟩ (by omega) (rl + 1) rl hrl rfl hC
         · exact dnum_short_false w g a T c at_ _ m hr hlt hc hmi hx2 (by omega) (by omega) (rl + 1) rl hrl rfl hC
       · by_cases hP : 0 < m
         · have h1 : at_ + 1 < T.length := by omega
           obtain ⟨a2, e2, _, hy⟩ := hr.2.2.2.2.2.1.at_ (k := at_ + 1) h1
           injection e2 with e2
           subst e2
           have hd : T.drop (at_ + 1) = T[at_ + 1] :: T.drop (at_ + 1 + 1) := List.drop_eq_getElem_cons h1
           obtain ⟨y, hyd⟩ : ∃ y, y = T[at_ + 1] := ⟨_, rfl⟩
           rw [← hyd] at hy hd
           have hyl := y.toNat_lt
           have h0 : (T.drop (at_ + 1))[0]? = some y := by rw [hd]; rfl
           obtain ⟨k, hk⟩ : ∃ k, m = k + 1 := ⟨m - 1, by omega⟩
           have htk : (T.drop (at_ + 1)).take m = y :: (T.drop (at_ + 1 + 1)).take k := by rw [hd, hk, List.take_succ_cons]
           have hlk : ((T.drop (at_ + 1 + 1)).take k).length = k := by rw [List.length_take, List.length_drop]; omega
           by_cases hy0 : y = 0
           · have hs : sizeP (T.drop (at_ + 1)) (h.toNat % 128) = none := sizeP_no (fun hk => by
              rcases hk.2.2.1 with h2 | h2
              · omega
              · exact h2 (by rw [h0, hy0]))
             rw [numP_no hs]
             subst hy0
             by_cases hn : 128 ≤ h.toNat
             · exact dnum_nought_true w g a T c at_ _ m hr hlt hc hmi hx2 ⟨hn, hP⟩ (by omega) (rl + 1) rl hrl rfl (by omega) hP (at_ + 1) rfl hy
             · exact dnum_nought_false w g a T c at_ _ m hr hlt hc hmi hx2 (by omega) (by omega) (rl + 1) rl hrl rfl (by omega) hP (at_ + 1) rfl hy
           · have hyp : 0 < y.toNat := by
              rcases Nat.eq_zero_or_pos y.toNat with h2 | h2
              · exact absurd (UInt8.toNat_inj.1 (by rw [h2]; rfl)) hy0
              · exact h2
             by_cases h8 : m = 8 ∧ 128 ≤ y.toNat
             · obtain ⟨h8, h9⟩ := h8
               have hs : sizeP (T.drop (at_ + 1)) (h.toNat % 128) = none := sizeP_no (fun hk => by
                have := hk.2.2.2
                rw [← hm, htk, val_8 _ _ (by omega)] at this
                omega)
               rw [numP_no hs]
               rw [h8] at hmi
               by_cases hn : 128 ≤ h.toNat
               · exact dnum_big_true w g a T c at_ _ hr hlt hc hmi hx2 hn (rl + 1) rl hrl rfl (by omega) (at_ + 1) rfl _ hy h9
               · exact dnum_big_false w g a T c at_ _ hr hlt hc hmi hx2 (by omega) (rl + 1) rl hrl rfl (by omega) (at_ + 1) rfl _ hy h9
             · have hV : Blob.val ((T.drop (at_ + 1)).take m) ≤ 9223372036854775807 := by
                by_cases h9 : m = 8
                · rw [htk, val_8 _ _ (by omega)]; omega
                · refine val_small _ ?_
                  rw [List.length_take]; omega
               have hok : okS (T.drop (at_ + 1)) m := ⟨by omega, by omega, .inr (by rw [h0]; intro h2; injection h2 with h2; exact hy0 h2), hV⟩
               have hpos : 0 < Blob.val ((T.drop (at_ + 1)).take m) := by
                rw [htk]
                exact Nat.lt_of_lt_of_le (Nat.pow_pos (by omega)) (val_ge y _ hy0)
               have hs := sizeP_yes hok
               rw [hm] at hs
               by_cases hn : 128 ≤ h.toNat
               · have hD : numP (h :: T.drop (at_ + 1)) = some (-((Blob.val ((T.drop (at_ + 1)).take m) : Nat) : Int), T.drop (at_ + 1 + m)) := by
                  unfold numP
                  simp only [hs]
                  rw [if_neg (by omega), ← hm, if_pos hpos, List.drop_drop]
                 rw [hD]
                 by_cases h9 : m = 8
                 · exact dnum_eight_true w g a T c at_ _ m hr hlt hc hmi hx2 _ rfl hV (by omega) hn h9 (at_ + 1) _ rfl hy hyp (by omega)
                 · exact dnum_some_true w g a T c at_ _ m hr hlt hc hmi hx2 _ rfl hV (by omega) hn (by omega) hP (at_ + 1) _ rfl hy hyp
               · have hD : numP (h :: T.drop (at_ + 1)) = some (((Blob.val ((T.drop (at_ + 1)).take m) : Nat) : Int), T.drop (at_ + 1 + m)) := by
                  unfold numP
                  simp only [hs]
                  rw [if_pos (by omega), ← hm, List.drop_drop]
                 rw [hD]
                 by_cases h9 : m = 8
                 · exact dnum_eight_false w g a T c at_ _ m hr hlt hc hmi hx2 _ rfl hV (by omega) (by omega) h9 (at_ + 1) _ rfl hy hyp (by omega)
                 · exact dnum_some_false w g a T c at_ _ m hr hlt hc hmi hx2 _ rfl hV (by omega) (by omega) (by omega) hP (at_ + 1) _ rfl hy hyp
         · have hm0 : m = 0 := by omega
           have hok : okS (T.drop (at_ + 1)) m := ⟨by omega, by omega, .inl hm0, by rw [hm0]; simp [Blob.val]⟩
           have hs := sizeP_yes hok
           rw [hm] at hs
           by_cases hn : 128 ≤ h.toNat
           · have hD : numP (h :: T.drop (at_ + 1)) = none := by
              unfold numP
              simp only [hs]
              rw [if_neg (by omega), ← hm, hm0, if_neg (by simp [Blob.val])]
             rw [hD]
             rw [hm0] at hmi
             exact dnum_minus w g a T c at_ _ hr hlt hc hmi hx2 hn
           · have hD : numP (h :: T.drop (at_ + 1)) = some (((Blob.val ((T.drop (at_ + 1)).take m) : Nat) : Int), T.drop (at_ + 1 + m)) := by
              unfold numP
              simp only [hs]
              rw [if_pos (by omega), ← hm, List.drop_drop]
             rw [hD]
             exact dnum_none w g a T c at_ _ m hr hlt hc hmi hx2 _ rfl hok.2.2.2 (by omega) (by omega) hm0
   · rw [dv_end (by omega)]
     exact dnum_end w g A T c at_ hr (by omega)
end Go.Proofs.YtmjjenemokojjaaGreat

namespace Go.Proofs.YtmjjenemokojjaaGreat
open Go.RowKit
set_option maxRecDepth 100000

theorem drd_lim {w : World} {g : Nat} {A : Option Addr} {T : Text} {c at_ : Nat} {bad : Bool} (h : Drd w g A T c at_ bad) : (T.length : Int) ≤ 20000 ∧ (at_ : Int) ≤ (T.length : Int) ∧ T.length ≤ c ∧ c ≤ 9223372036854775807 := by
 obtain ⟨_, h2, h3, h4, h5, _⟩ := h
 unfold maxLen at h5
 omega
/-- the slice of it that is read, as a text -/
theorem sub_run {w : World} {A : Option Addr} {T : Text} {k n : Nat} (c : Nat) (h : Txt w A T) (hk : k + n ≤ T.length) (hA : ∀ a, A = some a → True) (a : Addr) (e : A = some a) :
 (convert 36 9 (.slice (some (a.add k)) n c)).run Tryz.prog w = .ok (.string ⟨((T.drop k).take n).toArray⟩) w := by
 subst e
 have hl : ((T.drop k).take n).length = n := by rw [List.length_take, List.length_drop]; omega
 have h2 := (h.drop k).take n
 have := text_run w (some (a.add k)) c ((T.drop k).take n) h2 (by simp)
 rw [hl] at this
 exact this

/-- behind the number: a text, or none -/
def TGot (w : World) (g : Nat) (A : Option Addr) (T : Text) (c : Nat) (d : Option (ByteArray × Text)) (e : Ending) (w' : World) : Prop := DGot w g A T c (.string {data:=#[]}) (d.map fun p => (.string p.1, p.2)) e w'
theorem dgot_later {w w1 w' : World} {g : Nat} {A : Option Addr} {T : Text} {c : Nat} {z : Value} {d : Option (Value × Text)} {e : Ending} (ho : Only w w1 g) (h : DGot w1 g A T c z d e w') : DGot w g A T c z d e w' := by
 cases d with
 | none => obtain ⟨h1, h2, h3⟩ := h; exact ⟨h1, ho.trans h2, h3⟩
 | some p => obtain ⟨v, r⟩ := p; obtain ⟨h1, h2, h3⟩ := h; exact ⟨h1, ho.trans h2, h3⟩


theorem txt_nil (w : World) (A : Option Addr) : Txt w A [] := fun h => absurd rfl h
theorem cv_run {w : World} {g : Nat} {a : Addr} {T : Text} {c k n p : Nat} (h : Drd w g (some a) T c k false) (hp : p = k + n) (hl : p ≤ T.length) (W : World) (hb : Below w.heap.size w W) :
 (convert 36 9 (.slice (if c = k then some a else some (a.add k)) (p - k) (c - k))).run Tryz.prog W = .ok (.string ⟨((T.drop k).take n).toArray⟩) W := by
 have hT := h.2.2.2.2.2.1.below hb
 have hc := h.2.2.2.1
 subst hp
 rw [Nat.add_sub_cancel_left]
 by_cases hk : c = k
 · have h0 : n = 0 := by omega
   subst h0
   rw [if_pos hk]
   exact text_run W (some a) (c - k) [] (txt_nil W _) (by simp)
 · rw [if_neg hk]
   exact sub_run (c - k) hT (by omega) (fun _ _ => trivial) a rfl
end Go.Proofs.YtmjjenemokojjaaGreat

namespace Go.Proofs.YtmjjenemokojjaaGreat
open Go.RowKit
set_option maxRecDepth 100000

set_option maxHeartbeats 4000000 in
theorem dtext_spoilt (w : World) (g : Nat) (A : Option Addr) (T : Text) (c : Nat) 
 (hN : Calls Tryz.prog 77 #[.pointer (some ⟨g, 0, none⟩)] w fun e w' => e = .returned (.int .i64 0) ∧ Only w w' g ∧ ∃ k, Drd w' g A T c k true) :
 Calls Tryz.prog 78 #[.pointer (some ⟨g, 0, none⟩)] w (TGot w g A T c none) := by
 have HN := Lib.hid hN
 clear hN
 go_enter Tryz.func78, Tryz.ntmps78
 go_wp2_with ((go_at_call 77; refine HN.out.mono ?_; rintro e w1 ⟨rfl, ho1, k, hr1⟩; have HR1 := Lib.hid (And.intro ho1 hr1); have c0 := cell_of_row w1 g 0 _ _ _ hr1.1; have c1 := cell_of_row w1 g 1 _ _ _ hr1.1; have c2 := cell_of_row w1 g 2 _ _ _ hr1.1; have f1 := frozen_of_row w1 g 1 _ _ hr1.1; have f2 := frozen_of_row w1 g 2 _ _ hr1.1; simp only [List.getElem?_toArray, List.getElem?_cons_zero, List.getElem?_cons_succ] at c0 c1 c2; clear ho1 hr1))
 go_quiet (fail)
 go_wp2
 go_ret
 exact dgot_later HR1.out.1 (dgot_bad (z := .string {data:=#[]}) HR1.out.2 _)

set_option maxHeartbeats 4000000 in
theorem dtext_minus (w : World) (g : Nat) (A : Option Addr) (T : Text) (c k : Nat) (n : Int) (hn : n < 0)
 (hN : Calls Tryz.prog 77 #[.pointer (some ⟨g, 0, none⟩)] w fun e w' => e = .returned (.int .i64 n) ∧ Only w w' g ∧ Drd w' g A T c k false) :
 Calls Tryz.prog 78 #[.pointer (some ⟨g, 0, none⟩)] w (TGot w g A T c none) := by
 have HN := Lib.hid hN
 clear hN
 go_enter Tryz.func78, Tryz.ntmps78
 go_wp2_with ((go_at_call 77; refine HN.out.mono ?_; rintro e w1 ⟨rfl, ho1, hr1⟩; have HR1 := Lib.hid (And.intro ho1 hr1); have c0 := cell_of_row w1 g 0 _ _ _ hr1.1; have c1 := cell_of_row w1 g 1 _ _ _ hr1.1; have c2 := cell_of_row w1 g 2 _ _ _ hr1.1; have f1 := frozen_of_row w1 g 1 _ _ hr1.1; have f2 := frozen_of_row w1 g 2 _ _ hr1.1; simp only [List.getElem?_toArray, List.getElem?_cons_zero, List.getElem?_cons_succ] at c0 c1 c2; clear ho1 hr1))
 go_quiet (fail)
 go_wp2
 go_ret
 exact dgot_later HR1.out.1 (dgot_bad (z := .string {data:=#[]}) HR1.out.2 _)

set_option maxHeartbeats 4000000 in
theorem dtext_long (w : World) (g : Nat) (A : Option Addr) (T : Text) (c k : Nat) (n : Nat) (hn : 65536 < n)
 (hN : Calls Tryz.prog 77 #[.pointer (some ⟨g, 0, none⟩)] w fun e w' => e = .returned (.int .i64 n) ∧ Only w w' g ∧ Drd w' g A T c k false) :
 Calls Tryz.prog 78 #[.pointer (some ⟨g, 0, none⟩)] w (TGot w g A T c none) := by
 have HN := Lib.hid hN
 clear hN
 have : decide ((65536 : Int) < (n : Int)) = true := decide_eq_true (by omega)
 have : decide ((n : Int) < (0 : Int)) = false := decide_eq_false (by omega)
 go_enter Tryz.func78, Tryz.ntmps78
 go_wp2_with ((go_at_call 77; refine HN.out.mono ?_; rintro e w1 ⟨rfl, ho1, hr1⟩; have HR1 := Lib.hid (And.intro ho1 hr1); have c0 := cell_of_row w1 g 0 _ _ _ hr1.1; have c1 := cell_of_row w1 g 1 _ _ _ hr1.1; have c2 := cell_of_row w1 g 2 _ _ _ hr1.1; have f1 := frozen_of_row w1 g 1 _ _ hr1.1; have f2 := frozen_of_row w1 g 2 _ _ hr1.1; simp only [List.getElem?_toArray, List.getElem?_cons_zero, List.getElem?_cons_succ] at c0 c1 c2; clear ho1 hr1))
 go_quiet (fail)
 go_wp2
 go_ret
 exact dgot_later HR1.out.1 (dgot_bad (z := .string {data:=#[]}) HR1.out.2 _)

set_option maxHeartbeats 4000000 in
theorem dtext_short (w : World) (g : Nat) (A : Option Addr) (T : Text) (c k : Nat) (n q : Nat) (hn : n ≤ 65536) (hq : T.length = k + q) (hs : q < n)
 (hN : Calls Tryz.prog 77 #[.pointer (some ⟨g, 0, none⟩)] w fun e w' => e = .returned (.int .i64 n) ∧ Only w w' g ∧ Drd w' g A T c k false) :
 Calls Tryz.prog 78 #[.pointer (some ⟨g, 0, none⟩)] w (TGot w g A T c none) := by
 have HN := Lib.hid hN
 clear hN
 have : decide ((65536 : Int) < (n : Int)) = false := decide_eq_false (by omega)
 have : decide ((n : Int) < (0 : Int)) = false := decide_eq_false (by omega)
 have w1 : IntKind.i64.wrap ((T.length : Int) - (k : Int)) = (q : Int) := by rw [IntWalk.i64_in _ (by omega)]; omega
 have : decide ((q : Int) < (n : Int)) = true := decide_eq_true (by omega)
 clear hq
 go_enter Tryz.func78, Tryz.ntmps78
 go_wp2_with ((go_at_call 77; refine HN.out.mono ?_; rintro e w1 ⟨rfl, ho1, hr1⟩; have HR1 := Lib.hid (And.intro ho1 hr1); have c0 := cell_of_row w1 g 0 _ _ _ hr1.1; have c1 := cell_of_row w1 g 1 _ _ _ hr1.1; have c2 := cell_of_row w1 g 2 _ _ _ hr1.1; have f1 := frozen_of_row w1 g 1 _ _ hr1.1; have f2 := frozen_of_row w1 g 2 _ _ hr1.1; simp only [List.getElem?_toArray, List.getElem?_cons_zero, List.getElem?_cons_succ] at c0 c1 c2; clear ho1 hr1))
 go_quiet (fail)
 go_wp2
 go_ret
 exact dgot_later HR1.out.1 (dgot_bad (z := .string {data:=#[]}) HR1.out.2 _)

set_option maxHeartbeats 4000000 in
theorem dtext_some (w : World) (g : Nat) (A : Option Addr) (T : Text) (c k : Nat) (n q : Nat) (hn : n ≤ 65536) (hq : T.length = k + q) (hs : n ≤ q) (a : Addr) (hA : A = some a) (hj : (T.length : Int) ≤ 20000) (hk : (k : Int) ≤ (T.length : Int))
 (hN : Calls Tryz.prog 77 #[.pointer (some ⟨g, 0, none⟩)] w fun e w' => e = .returned (.int .i64 n) ∧ Only w w' g ∧ Drd w' g A T c k false) :
 Calls Tryz.prog 78 #[.pointer (some ⟨g, 0, none⟩)] w (TGot w g A T c (some (⟨((T.drop k).take n).toArray⟩, T.drop (k + n)))) := by
 have HN := Lib.hid hN
 clear hN
 have : decide ((65536 : Int) < (n : Int)) = false := decide_eq_false (by omega)
 have : decide ((n : Int) < (0 : Int)) = false := decide_eq_false (by omega)
 have w1 : IntKind.i64.wrap ((T.length : Int) - (k : Int)) = (q : Int) := by rw [IntWalk.i64_in _ (by omega)]; omega
 have : decide ((q : Int) < (n : Int)) = false := decide_eq_false (by omega)
 have w2 : IntKind.i64.wrap ((k : Int) + (n : Int)) = ((k + n : Nat) : Int) := by rw [IntWalk.i64_in _ (by omega)]; omega
 obtain ⟨p, hp⟩ : ∃ p, p = k + n := ⟨_, rfl⟩
 rw [← hp] at w2
 have hpl : (p : Int) ≤ (T.length : Int) := by omega
 have hkp : (k : Int) ≤ (p : Int) := by omega
 have HP := Lib.hid (And.intro hp hq)
 subst hA
 clear hq hp
 go_enter Tryz.func78, Tryz.ntmps78
 go_wp2_with ((go_at_call 77; refine HN.out.mono ?_; rintro e w1 ⟨rfl, ho1, hr1⟩; have HR1 := Lib.hid (And.intro ho1 hr1); have c0 := cell_of_row w1 g 0 _ _ _ hr1.1; have c1 := cell_of_row w1 g 1 _ _ _ hr1.1; have c2 := cell_of_row w1 g 2 _ _ _ hr1.1; have f1 := frozen_of_row w1 g 1 _ _ hr1.1; have f2 := frozen_of_row w1 g 2 _ _ hr1.1; simp only [List.getElem?_toArray, List.getElem?_cons_zero, List.getElem?_cons_succ] at c0 c1 c2; clear ho1 hr1))
 have hlim := drd_lim HR1.out.2
 have hcl : (c : Int) ≤ 9223372036854775807 := by omega
 have hpc : (p : Int) ≤ (c : Int) := by omega
 have HCV := Lib.hid (fun n2 => cv_run HR1.out.2 HP.out.1 (by omega) (w1.drewN n2) (below_drewN (Below.refl _ _) _))
 go_quiet (fail)
 go_wp2
 have hcv := HCV.out
 go_quiet (fail)
 go_wp2
 all_goals
  go_ret
  try subst h
  show DGot w g (some a) T _ _ (some (.string _, _)) _ _
  refine dgot_fin (HR1.out.2.drewN _) (HR1.out.1.trans (Only.drewN _ _ _)) _ ?_ _ ?_
  · have := HP.out
    omega
  · have := HP.out
    omega
end Go.Proofs.YtmjjenemokojjaaGreat

namespace Go.Proofs.YtmjjenemokojjaaGreat
open Go.RowKit
set_option maxRecDepth 100000
set_option linter.unusedSimpArgs false
set_option linter.unusedVariables false

/-- a writer at g, and beside it a box that its calls leave alone -/
def WB (w : World) (B g : Nat) (S : Option Text) (b : Nat) (o : Obj) : Prop := ∃ v, Wrt w B g S v ∧ B ≤ w.heap.size ∧ w.heap[b]? = some o ∧ b ≠ g ∧ v.ownBlock ≠ some b
theorem WB.box {w : World} {B g b : Nat} {S : Option Text} {o : Obj} (h : WB w B g S b o) : w.heap[b]? = some o := h.choose_spec.2.2.1
theorem WB.start {w : World} {B g : Nat} {S : Option Text} {v : Value} (h : Wrt w B g S v) (hB : B ≤ w.heap.size) (o : Obj) : WB (w.alloc o) B g S w.heap.size o :=
 ⟨v, h.below (below_alloc w o), by simp; omega, heap_alloc_new w o, Nat.ne_of_gt h.lt, fun e => by have := (h.2.2.1.lt w.heap.size e).2; omega⟩
theorem WB.drew {w : World} {B g b : Nat} {S : Option Text} {o : Obj} (h : WB w B g S b o) : WB w.drew B g S b o := by
 obtain ⟨v, h1, h2, h3, h4, h5⟩ := h
 exact ⟨v, h1.below (below_drew w), h2, h3, h4, h5⟩
theorem WB.of_put {w w1 : World} {B g b : Nat} {S d : Option Text} {o : Obj} {v : Value} {e : Ending} (h1 : Wrt w B g S v) (h2 : B ≤ w.heap.size) (h3 : w.heap[b]? = some o) (h4 : b ≠ g) (h5 : v.ownBlock ≠ some b) (h : Put w B g S v d e w1) :
 e = .returned (.pointer (some ⟨g, 0, none⟩)) ∧ WB w1 B g (nextS S d) b o ∧ Below B w w1 := by
 obtain ⟨he, v', hw, hc, ho⟩ := h
 refine ⟨he, ⟨v', hw, Nat.le_trans h2 hc.size, (hc.block b (heapLt h3) h4 (fun e => h5 e.symm)).trans h3, h4, ?_⟩, hc.below h1 h2⟩
 rcases ho with ho | ho | ⟨k, ho, hk⟩
 · rw [ho]; exact h5
 · rw [ho]; simp
 · rw [ho]
   intro e
   have := heapLt h3
   have e2 : k = b := Option.some.inj e
   omega
theorem WB.num {w : World} {B g b : Nat} {S : Option Text} {o : Obj} (h : WB w B g S b o) (n : Int) (h1 : -9223372036854775808 ≤ n) (h2 : n ≤ 9223372036854775807) (hS : (S.getD []).length ≤ 140737488000000) :
 Calls Tryz.prog 66 #[.pointer (some ⟨g, 0, none⟩), .int .i64 n] w fun e w1 => e = .returned (.pointer (some ⟨g, 0, none⟩)) ∧ WB w1 B g (nextS S (docN n)) b o ∧ Below B w w1 := by
 obtain ⟨v, a1, a2, a3, a4, a5⟩ := h
 exact (code_wnum n w B g S v a1 a2 h1 h2 hS).mono fun e w1 hp => WB.of_put a1 a2 a3 a4 a5 hp
theorem WB.text {w : World} {B g b : Nat} {S : Option Text} {o : Obj} (h : WB w B g S b o) (s : ByteArray) (h1 : s.size ≤ 9223372036854775807) (hS : (S.getD []).length ≤ 140737488000000) :
 Calls Tryz.prog 67 #[.pointer (some ⟨g, 0, none⟩), .string s] w fun e w1 => e = .returned (.pointer (some ⟨g, 0, none⟩)) ∧ WB w1 B g (nextS S (docS s)) b o ∧ Below B w w1 := by
 obtain ⟨v, a1, a2, a3, a4, a5⟩ := h
 exact (code_wtext s w B g S v a1 a2 h1 hS).mono fun e w1 hp => WB.of_put a1 a2 a3 a4 a5 hp
def Wrote (w : World) (B g : Nat) (S : Option Text) (e : Ending) (w1 : World) : Prop := e = .returned (.tuple #[]) ∧ (∃ v, Wrt w1 B g S v) ∧ Below B w w1
set_option maxHeartbeats 1000000 in
theorem write_11 (cs : Array Value) (y : Int) (B g : Nat) (S : Option Text) (v : Value) (w : World) (hw : Wrt w B g S v) (hB : B ≤ w.heap.size) (hk : cs[0]? = some (.int .i64 11)) (hy : cs[11]? = some (.int .i64 y)) (hy1 : 0 ≤ y) (hy2 : y ≤ 9999) (hS : (S.getD []).length ≤ 140737488000000) (hS2 : ((nextS S (docN 11)).getD []).length ≤ 140737488000000) : Calls Tryz.prog 39 #[.pointer (some ⟨g, 0, none⟩), .agg cs] w fun e w1 => Wrote w B g (nextS (nextS S (docN 11)) (docN y)) e w1 := by
 have HS := Lib.hid (WB.start hw hB (.cells cs 28 (0, 0)))
 have HB0 := Lib.hid (show Below B w (w.alloc (.cells cs 28 (0, 0))) from (Below.refl _ _).alloc hB _)
 have HKs := Lib.hid (And.intro hk hy)
 have HL := Lib.hid (And.intro hS hS2)
 clear hw hS hS2
 have k0 := (cell_of_row _ _ 0 _ _ _ HS.out.box).trans hk
 clear hk hy
 go_enter Tryz.func39, Tryz.ntmps39
 go_wp2_with (go_at_call 66; refine (HS.out.num 11 (by decide) (by decide) HL.out.1).mono ?_; rintro e w1 ⟨rfl, hs1, hb⟩; have HS1 := Lib.hid hs1; have HB1 := Lib.hid (HB0.out.trans hb); clear hs1 hb k0; have k0 := (cell_of_row _ _ 0 _ _ _ HS1.out.box).trans HKs.out.1; have k11 := (cell_of_row _ _ 11 _ _ _ HS1.out.box).trans HKs.out.2; refine Stop.out ?_)
 unfold Stop
 go_wp2_with (go_at_call 66; refine (HS1.out.num y (by omega) (by omega) HL.out.2).mono ?_; rintro e w2 ⟨rfl, hs2, hb⟩; have HS2 := Lib.hid hs2; have HB2 := Lib.hid (HB1.out.trans hb); clear hs2 hb)
 go_end0
 obtain ⟨v2, hv2, _⟩ := HS2.out
 exact ⟨rfl, ⟨v2, hv2⟩, HB2.out⟩
end Go.Proofs.YtmjjenemokojjaaGreat
