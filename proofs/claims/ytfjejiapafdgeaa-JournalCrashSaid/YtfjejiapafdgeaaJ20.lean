/- Sectors are the cuts of what they hold just if nought stands behind it. The document's own sectors: a number's bytes. The document's own sectors: the number that bytes are; a head that may be. -/
import Derived.Test.YtfjejiapafdgeaaJ19
import Derived.Test.YtfjejiapafdgeaaJ5
import Derived.Test.YtfjejiapafdgeaaJ9
import Derived.Test.YtfjejiapafdgeaaJ6
namespace Go.Proofs.Ytfjejiapafdgeaa
open Go.RowKit
set_option maxRecDepth 100000

theorem flat_at (L : List Text) (h : ∀ i (hi : i < L.length), L[i].length = 64) : ∀ i (hi : i < L.length), L[i] = (L.flatten.drop (64 * i)).take 64 := by
  induction L with
  | nil => intro i hi; simp at hi
  | cons a L ih =>
    have h0 : a.length = 64 := h 0 (by simp)
    intro i hi
    rw [List.flatten_cons]
    cases i with
    | zero => simp [List.take_append_of_le_length (Nat.le_of_eq h0.symm), List.take_of_length_le (Nat.le_of_eq h0)]
    | succ i =>
      have hi' : i < L.length := by simpa using hi
      rw [List.getElem_cons_succ, ih (fun j hj => by have := h (j + 1) (by simpa using hj); simpa using this) i hi', show 64 * (i + 1) = a.length + 64 * i by omega, List.drop_append, (List.drop_of_length_le (by omega) : List.drop (a.length + 64 * i) a = []), List.nil_append, show a.length + 64 * i - a.length = 64 * i by omega]
theorem cuts_iff (L : List Text) (n : Nat) (h64 : ∀ i (hi : i < L.length), L[i].length = 64) (hm : L.length = (n + 63) / 64) :
    (∀ i, i < L.length → L[i]? = some (cutT (joinT L n) i)) ↔ ∀ j, n ≤ j → (h : j < L.flatten.length) → L.flatten[j] = 0 := by
  have hf := flat_len L h64
  have hT : (joinT L n).length = n := by unfold joinT; rw [List.length_take]; omega
  constructor
  · intro h j hj hjl
    have hL : L = cutP (joinT L n) L.length := by
      refine List.ext_getElem (cutP_len _ _).symm fun i h1 h2 => ?_
      rw [cutP_at]
      have := h i h1
      rw [List.getElem?_eq_getElem h1] at this
      injection this
    have hF : L.flatten = (padT (joinT L n) 64).take (64 * L.length) := by
      conv => lhs; rw [hL]
      exact cutP_flat (joinT L n) 64 (Nat.le_refl _) L.length (by omega)
    have h1 : L.flatten[j]? = some 0 := by
      rw [hF, List.getElem?_take, if_pos (by omega)]
      unfold padT
      rw [List.getElem?_append_right (by omega), List.getElem?_replicate, if_pos (by omega)]
    rw [List.getElem?_eq_getElem hjl] at h1
    injection h1
  · intro h i hi
    rw [List.getElem?_eq_getElem hi, flat_at L h64 i hi, cut_pad (joinT L n) i 64 (Nat.le_refl _) (by omega)]
    congr 1
    have hF : L.flatten = (padT (joinT L n) 64).take (64 * L.length) := by
      refine List.ext_getElem (by unfold padT; rw [List.length_take, List.length_append, List.length_replicate, hf]; omega) fun j h1 h2 => ?_
      rw [List.getElem_take]
      unfold padT
      by_cases hj : j < n
      · rw [List.getElem_append_left (by omega)]
        unfold joinT
        rw [List.getElem_take]
      · rw [List.getElem_append_right (by omega), List.getElem_replicate]
        exact h j (by omega) h1
    rw [hF, List.drop_take, List.take_take, Nat.min_eq_left (by omega)]
end Go.Proofs.Ytfjejiapafdgeaa

namespace Go.Proofs.Ytfjejiapafdgeaa
open Go.RowKit
set_option maxRecDepth 100000

theorem high_next (X m j : Nat) (h : j < m) : (highT X m).take (m - j) = (highT X m).take (m - (j + 1)) ++ [UInt8.ofNat (X / 2 ^ (8 * j))] := by
  have hk : m - (j + 1) < (highT X m).length := by rw [highT_len]; omega
  rw [show m - j = m - (j + 1) + 1 by omega, List.take_succ_eq_append_getElem hk]
  congr 2
  simp only [highT, List.getElem_map, List.getElem_range]
  rw [show m - 1 - (m - (j + 1)) = j by omega]
set_option maxHeartbeats 1000000 in
theorem ref_big (X m : Nat) (w : World) (hX : X ≤ 9223372036854775807) (hm : m ≤ 8) (hm1 : 1 ≤ m) : Calls Try.prog 82 #[.int .i64 X, .int .i64 m] w (ToldF w (highT X m)) := by
  have i1 : (m : Int) ≤ 8 := by omega
  have i2 : (X : Int) ≤ 9223372036854775807 := by omega
  clear hX
  go_enter Try.func82, Try.ntmps82
  go_wp2
  go_loopw [5, 6] (fun v i wr => ∃ r : Nat, r ≤ m ∧ i = .int .i64 ((r : Int) - 1) ∧ (∃ A n c, v = .slice A n c) ∧ Hid (wr.ownsRow w.heap.size 5 1 v ((highT X m).take (m - r)).length (((highT X m).take (m - r)).map cellOf)) ∧ Hid (Below w.heap.size w wr)) (fun _ i _ => (intOf i + 1).toNat)
  case atStart => exact ⟨m, Nat.le_refl _, rfl, ⟨_, _, _, rfl⟩, Lib.hid (by rw [Nat.sub_self]; exact World.ownsRow_nil _ _ _ _), Lib.hid (Below.refl _ _)⟩
  case round =>
    obtain ⟨r, hr, rfl, ⟨A, n, c, rfl⟩, HO, HB⟩ := hrel
    cases r with
    | succ j =>
      have ej : ((j + 1 : Nat) : Int) - 1 = (j : Int) := by omega
      rw [ej]
      have j1 : (j : Int) ≤ 7 := by omega
      obtain ⟨x, hx⟩ : ∃ x : UInt8, x = UInt8.ofNat (X / 2 ^ (8 * j)) := ⟨_, rfl⟩
      have HX : Hid (Value.int .u8 ((X : Int) / 2 ^ (8 * j) % 256) = cellOf x) := Lib.hid (by rw [hx]; unfold cellOf; rw [UInt8.toNat_ofNat']; simp)
      have HS : Hid ((highT X m).take (m - j) = (highT X m).take (m - (j + 1)) ++ [x]) := Lib.hid (by rw [hx]; exact high_next X m j (by omega))
      clear hx ej
      go_wp2_with (refine wpList_append_own_text (o := ⟨some 20, _, _, _, _, _⟩) rfl _ _ rfl rfl w.heap.size w _ ((highT X m).take (m - (j + 1))) [x] ((highT X m).take (m - j)) rfl ?o1 (some ⟨wr.heap.size, 0, none⟩) 1 rfl ?o2 ?o3 ?o4 ?o5 ?o6 ?o7 ?_; (case o1 => exact own_below HO.out ((Below.refl _ _).alloc (Nat.le_refl _) _)); (case o2 => exact txt_page (l := [x]) (t := 5) (fr := (0, 0)) (by have := heap_alloc_new wr (.cells #[cellOf x] 5); rw [← HX.out] at this; simpa [← HX.out] using this)); (case o3 => simp); (case o4 => simp [highT_len]; omega); (case o5 => exact HB.out.alloc HB.out.size _); (case o6 => exact Nat.le_trans HB.out.size (by simp)); (case o7 => exact HS.out); intro v2 w2 hown2 hb2 hv2; obtain ⟨A2, n2, c2, rfl⟩ := slice_of_own hown2; have HO2 := Lib.hid hown2; have HB2 := Lib.hid hb2; clear hown2 hb2 hv2)
      go_roundw
      case rel => exact ⟨j, by omega, rfl, ⟨_, _, _, rfl⟩, HO2, HB2⟩
      case measure => simp [intOf]
    | zero =>
      have ez : ((0 : Nat) : Int) - 1 = -1 := by omega
      rw [ez]
      have ht : (highT X m).take (m - 0) = highT X m := by rw [Nat.sub_zero]; exact List.take_of_length_le (by rw [highT_len]; exact Nat.le_refl _)
      rw [ht] at HO
      obtain ⟨g, c', hv, hc, hm', ht', _⟩ := own_more HO.out (by rw [highT_len]; omega)
      have HV := Lib.hid hv
      have HR := Lib.hid (And.intro hc (And.intro hm' ht'))
      clear hv hc hm' ht' ez ht
      go_wp2
      go_ret
      exact ⟨g, c', congrArg Ending.returned HV.out, HR.out.1, HR.out.2.1, HR.out.2.2, HB.out⟩
theorem own_count {w : World} {base n c m : Nat} {A : Option Addr} {xs : List Value} (h : w.ownsRow base 5 1 (.slice A n c) m xs) : n = m := by
  rcases h.2 with ⟨h1, h2⟩ | ⟨g, cap, cur, h1, _⟩
  · injection h1 with _ h1 _
    omega
  · injection h1
/-- with 0 up to a sector -/
def fillP (l : Text) : Text := l ++ List.replicate (64 - l.length) 0
/-- the same, in a block that the call made -/
def ToldG (w : World) (T : Text) (e : Ending) (w' : World) : Prop := ∃ g c, e = .returned (.slice (some ⟨g, 0, none⟩) T.length c) ∧ T.length ≤ c ∧ c ≤ maxLen ∧ Txt w' (some ⟨g, 0, none⟩) T ∧ Below w.heap.size w w' ∧ w.heap.size ≤ g
set_option maxHeartbeats 1000000 in
theorem ref_fillG (l : Text) (A : Option Addr) (c : Nat) (w : World) (hl : l.length ≤ 64) (hT : Txt w A l) (hA : A = none → l = []) : Calls Try.prog 60 #[.slice A l.length c] w (ToldG w (fillP l)) := by
  have HT := Lib.hid hT
  have HA := Lib.hid hA
  have i1 : (l.length : Int) ≤ 64 := by omega
  clear hT hA
  go_enter Try.func60, Try.ntmps60
  go_wp2_with (refine wpList_append_own_text (o := ⟨some 6, _, _, _, _, _⟩) rfl _ _ rfl rfl w.heap.size w _ [] l l rfl ?o1 A c rfl ?o2 ?o3 ?o4 ?o5 ?o6 ?o7 ?_; (case o1 => exact World.ownsRow_lit (base := w.heap.size) (e := 5) (size := 1) w #[] 0 (Nat.le_refl _) (by unfold maxLen; omega) rfl); (case o2 => exact HT.out.alloc _); (case o3 => exact HA.out); (case o4 => simp; omega); (case o5 => exact (Below.refl _ _).alloc (Nat.le_refl _) _); (case o6 => simp); (case o7 => rfl); intro v2 w2 hown2 hb2 hv2; obtain ⟨A2, n2, c2, rfl⟩ := slice_of_own hown2; have HO2 := Lib.hid hown2; have HB2 := Lib.hid hb2; clear hown2 hb2 hv2)
  have hn2 := own_count HO2.out
  subst hn2
  have HO3 : Hid (w2.ownsRow w.heap.size 5 1 (.slice A2 l.length c2) (l ++ List.replicate 0 0).length ((l ++ List.replicate 0 0).map cellOf)) := Lib.hid (by simpa using HO2.out)
  clear HO2
  go_loopw [3] (fun v wr => ∃ j : Nat, l.length + j ≤ 64 ∧ (∃ A c, v = .slice A (l.length + j) c) ∧ Hid (wr.ownsRow w.heap.size 5 1 v (l ++ List.replicate j 0).length ((l ++ List.replicate j 0).map cellOf)) ∧ Hid (Below w.heap.size w wr)) (fun v _ => match v with | .slice _ n _ => 64 - n | _ => 0)
  case atStart => exact ⟨0, by omega, ⟨_, _, rfl⟩, HO3, HB2⟩
  case round =>
    obtain ⟨j, hj, ⟨A, c, rfl⟩, HO, HB⟩ := hrel
    by_cases hlt : l.length + j < 64
    · have hlt' : (l.length : Int) + (j : Int) < 64 := by omega
      go_wp2_with (refine wpList_append_own_text (o := ⟨some 12, _, _, _, _, _⟩) rfl _ _ rfl rfl w.heap.size w _ (l ++ List.replicate j 0) [0] (l ++ List.replicate (j + 1) 0) rfl ?o1 (some ⟨wr.heap.size, 0, none⟩) 1 rfl ?o2 ?o3 ?o4 ?o5 ?o6 ?o7 ?_; (case o1 => exact own_below HO.out ((Below.refl _ _).alloc (Nat.le_refl _) _)); (case o2 => exact txt_page (l := [0]) (t := 5) (fr := (0, 0)) (heap_alloc_new wr _)); (case o3 => simp); (case o4 => simp; omega); (case o5 => exact HB.out.alloc HB.out.size _); (case o6 => exact Nat.le_trans HB.out.size (by simp)); (case o7 => rw [List.replicate_succ', List.append_assoc]); intro v2 w2 hown2 hb2 hv2; obtain ⟨A2, n2, c2, rfl⟩ := slice_of_own hown2; have hn3 := own_count hown2; rw [List.length_append, List.length_replicate] at hn3; subst hn3; have HO2 := Lib.hid hown2; have HB2 := Lib.hid hb2; clear hown2 hb2 hv2)
      go_roundw
      case rel => exact ⟨j + 1, by omega, ⟨_, _, rfl⟩, HO2, HB2⟩
      case measure => simp; omega
    · have e9 : l ++ List.replicate j 0 = fillP l := by unfold fillP; rw [show j = 64 - l.length by omega]
      rw [e9] at HO
      have hf : (fillP l).length = 64 := by unfold fillP; rw [List.length_append, List.length_replicate]; omega
      obtain ⟨g, c', hv, hc, hm', ht', hge, _⟩ := own_more HO.out (by omega)
      have HV := Lib.hid hv
      have HR := Lib.hid (And.intro hc (And.intro hm' ht'))
      have HGE := Lib.hid hge
      have h64 : (64 : Int) ≤ (l.length : Int) + (j : Int) := by omega
      clear hv hc hm' ht' e9 hf hge
      go_wp2
      go_ret
      exact ⟨g, c', congrArg Ending.returned HV.out, HR.out.1, HR.out.2.1, HR.out.2.2, HB.out, HGE.out⟩
theorem ref_fill (l : Text) (A : Option Addr) (c : Nat) (w : World) (hl : l.length ≤ 64) (hT : Txt w A l) (hA : A = none → l = []) : Calls Try.prog 60 #[.slice A l.length c] w (ToldF w (fillP l)) := by
  refine (ref_fillG l A c w hl hT hA).mono ?_
  rintro e w' ⟨g, c', h1, h2, h3, h4, h5, _⟩
  exact ⟨g, c', h1, h2, h3, h4, h5⟩
end Go.Proofs.Ytfjejiapafdgeaa

namespace Go.Proofs.Ytfjejiapafdgeaa
open Go.RowKit
set_option maxRecDepth 100000

theorem ref_right (s n u : Int) (w : World) : Calls Try.prog 58 #[headV s n u] w fun e w' => e = .returned (.bool (headOk s n)) ∧ Below w.heap.size w w' := by
  have HB : Hid (∀ o, Below w.heap.size w (w.alloc o)) := Lib.hid (fun o => (Below.refl _ _).alloc (Nat.le_refl _) o)
  unfold headV
  have e : headOk s n = (decide (1 ≤ s) && decide (s ≤ 4611686018427387904) && decide (1 ≤ n) && decide (n ≤ 131072)) := by
    unfold headOk seqOk needV
    by_cases h1 : 1 ≤ n <;> by_cases h2 : n ≤ 131072
    · rw [if_neg (by omega), decide_eq_true h1, decide_eq_true h2, decide_eq_true (by omega : 0 < 2 + (n + 63) / 64)]; simp
    · rw [if_pos (by omega), decide_eq_false h2]; simp
    · rw [if_pos (by omega), decide_eq_false h1]; simp
    · rw [if_pos (by omega), decide_eq_false h1]; simp
  have HE := Lib.hid e
  rw [e]
  clear e
  by_cases h1 : 1 ≤ s
  · by_cases h2 : s ≤ 4611686018427387904
    · by_cases h3 : 1 ≤ n
      · by_cases h4 : n ≤ 131072
        · go_enter Try.func58, Try.ntmps58
          go_wp2
          go_ret
          exact ⟨by first | rfl | (simp; done) | (simp; intros; omega), HB.out _⟩
        · have h4' : 131072 < n := by omega
          go_enter Try.func58, Try.ntmps58
          go_wp2
          go_ret
          exact ⟨by first | rfl | (simp; done) | (simp; intros; omega), HB.out _⟩
      · have h3' : n < 1 := by omega
        go_enter Try.func58, Try.ntmps58
        go_wp2
        go_ret
        exact ⟨by first | rfl | (simp; done) | (simp; intros; omega), HB.out _⟩
    · have h2' : 4611686018427387904 < s := by omega
      go_enter Try.func58, Try.ntmps58
      go_wp2
      go_ret
      exact ⟨by first | rfl | (simp; done) | (simp; intros; omega), HB.out _⟩
  · have h1' : s < 1 := by omega
    go_enter Try.func58, Try.ntmps58
    go_wp2
    go_ret
    exact ⟨by first | rfl | (simp; done) | (simp; intros; omega), HB.out _⟩
theorem wrap_step (N : Nat) (z : Int) : wrap64 (wrap64 (IntKind.i64.wrap (N : Int) * 256) + z) = IntKind.i64.wrap ((N : Int) * 256 + z) := by
  simp only [IntKind.wrap_i64, wrap64]
  omega
set_option maxHeartbeats 1000000 in
theorem ref_number (l : Text) (A : Option Addr) (c : Nat) (w : World) (hl : l.length ≤ 8) (hT : Txt w A l) :
    Calls Try.prog 90 #[.slice A l.length c] w fun e w' => e = .returned (.int .i64 (IntKind.i64.wrap (numT l))) ∧ w = w' := by
  have i1 : (l.length : Int) ≤ 8 := by omega
  have HT := Lib.hid hT
  clear hT
  go_enter Try.func90, Try.ntmps90
  go_wp2
  go_loopw [3, 4] (fun s v wr => ∃ k : Nat, k ≤ l.length ∧ v = .int .i64 k ∧ s = .int .i64 (IntKind.i64.wrap (numT (l.take k))) ∧ Hid (w = wr)) (fun _ v _ => l.length - (intOf v).toNat)
  case atStart => exact ⟨0, by omega, rfl, by simp [numT, IntKind.wrap_i64], Lib.hid rfl⟩
  case round =>
    obtain ⟨k, hk, rfl, rfl, HK⟩ := hrel
    by_cases hlt : k < l.length
    · have hlt' : (k : Int) < (l.length : Int) := by omega
      obtain ⟨a, rfl, hbl, hc⟩ := HT.out (by intro e; rw [e] at hlt; simp at hlt)
      have hx := hc k hlt
      rw [HK.out] at hx
      clear hc
      obtain ⟨x, hxk⟩ : ∃ x, x = l[k] := ⟨_, rfl⟩
      rw [← hxk] at hx
      obtain ⟨z, hz⟩ : ∃ z : Int, z = (x.toNat : Int) := ⟨_, rfl⟩
      have hz0 : 0 ≤ z ∧ z < 256 := by have := x.toNat_lt; omega
      rw [← hz] at hx
      obtain ⟨y, hy⟩ : ∃ y : Int, y = IntKind.i64.wrap (numT (l.take k)) := ⟨_, rfl⟩
      rw [← hy]
      have HZ := Lib.hid (And.intro hz (And.intro hxk hy))
      clear hz hxk hy
      go_wp2
      go_roundw
      case rel =>
        obtain ⟨rfl, rfl, rfl⟩ := HZ.out
        exact ⟨k + 1, by omega, by go_num, by rw [wrap_step, List.take_succ_eq_append_getElem hlt, numT_snoc]; simp, HK⟩
      case measure => simp [intOf]; omega
    · obtain rfl : k = l.length := by omega
      have HK' := HK.out
      go_wp2
      go_ret
      rw [List.take_length]
      exact ⟨rfl, HK.out⟩
end Go.Proofs.Ytfjejiapafdgeaa
