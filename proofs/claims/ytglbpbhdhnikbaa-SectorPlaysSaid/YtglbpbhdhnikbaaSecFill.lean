/- A sector of one byte, made. -/
import Derived.Test.YtglbpbhdhnikbaaSecOps
import Derived.Test.YtglbpbhdhnikbaaTxt2
namespace Go.Proofs.Ytglbpbhdhnikbaa
open Go.RowKit
set_option maxRecDepth 100000

def fillT (b : UInt8) : Text := List.replicate 64 b
theorem fillT_len (b : UInt8) : (fillT b).length = 64 := List.length_replicate
theorem own_more {w : World} {B : Nat} {v : Value} {l : Text} (h : w.ownsRow B 5 1 v l.length (l.map cellOf)) (hl : 0 < l.length) :
    ∃ g c, v = .slice (some ⟨g, 0, none⟩) l.length c ∧ l.length ≤ c ∧ c ≤ maxLen ∧ Txt w (some ⟨g, 0, none⟩) l ∧ B ≤ g ∧ g < w.heap.size := by
  rcases h.2 with ⟨rfl, h0⟩ | ⟨g, c, cur, rfl, hB, hh, hc, hm, _⟩
  · omega
  · exact ⟨g, c, rfl, hc, hm, .of_own h, hB, heapLt hh⟩
theorem slice_of_own {w : World} {B n : Nat} {v : Value} {xs : List Value} (h : w.ownsRow B 5 1 v n xs) : ∃ A k c, v = .slice A k c := by
  rcases h.2 with ⟨rfl, _⟩ | ⟨g, c, cur, rfl, _⟩
  · exact ⟨_, _, _, rfl⟩
  · exact ⟨_, _, _, rfl⟩
/-- a slice of a text's bytes in a block of its own -/
def ToldF (w : World) (T : Text) (e : Ending) (w' : World) : Prop := ∃ g c, e = .returned (.slice (some ⟨g, 0, none⟩) T.length c) ∧ T.length ≤ c ∧ c ≤ maxLen ∧ Txt w' (some ⟨g, 0, none⟩) T ∧ Below w.heap.size w w'
set_option maxHeartbeats 1000000 in
theorem code_fill (b : UInt8) (w : World) : Calls Try.prog 28 #[.int .u8 b.toNat] w (ToldF w (fillT b)) := by
  obtain ⟨X, hX⟩ : ∃ X : Int, X = (b.toNat : Int) := ⟨_, rfl⟩
  have HX := Lib.hid hX
  rw [← hX]
  clear hX
  go_enter Try.func28, Try.ntmps28
  go_wp2
  go_loopw [3, 4] (fun v i wr => ∃ k : Nat, k ≤ 64 ∧ i = .int .i64 k ∧ (∃ A n c, v = .slice A n c) ∧ Hid (wr.ownsRow w.heap.size 5 1 v (List.replicate k b).length ((List.replicate k b).map cellOf)) ∧ Hid (Below w.heap.size w wr)) (fun _ i _ => 64 - (intOf i).toNat)
  case atStart => exact ⟨0, by omega, rfl, ⟨_, _, _, rfl⟩, Lib.hid (World.ownsRow_nil _ _ _ _), Lib.hid (Below.refl _ _)⟩
  case round =>
    obtain ⟨k, hk, rfl, ⟨A, n, c, rfl⟩, HO, HB⟩ := hrel
    by_cases hlt : k < 64
    · have hlt' : (k : Int) < 64 := by omega
      go_wp2_with (refine wpList_append_own_text (o := ⟨some 9, _, _, _, _, _⟩) rfl _ _ rfl rfl w.heap.size w _ (List.replicate k b) [b] (List.replicate (k + 1) b) rfl ?o1 (some ⟨wr.heap.size, 0, none⟩) 1 rfl ?o2 ?o3 ?o4 ?o5 ?o6 ?o7 ?_; (case o1 => exact own_below HO.out ((Below.refl _ _).alloc (Nat.le_refl _) _)); (case o2 => exact txt_page (l := [b]) (t := 5) (fr := (0, 0)) (by rw [HX.out]; exact heap_alloc_new wr _)); (case o3 => simp); (case o4 => simp; omega); (case o5 => exact HB.out.alloc HB.out.size _); (case o6 => exact Nat.le_trans HB.out.size (by simp)); (case o7 => rw [List.replicate_succ']); intro v2 w2 hown2 hb2 hv2; obtain ⟨A2, n2, c2, rfl⟩ := slice_of_own hown2; have HO2 := Lib.hid hown2; have HB2 := Lib.hid hb2; clear hown2 hb2 hv2)
      go_roundw
      case rel => exact ⟨k + 1, by omega, by go_num, ⟨_, _, _, rfl⟩, HO2, HB2⟩
      case measure => simp [intOf]; omega
    · obtain rfl : k = 64 := by omega
      obtain ⟨g, c', hv, hc, hm, ht, _⟩ := own_more HO.out (by simp)
      have HV := Lib.hid hv
      have HR := Lib.hid (And.intro hc (And.intro hm ht))
      clear hv hc hm ht
      go_wp2
      go_ret
      exact ⟨g, c', congrArg Ending.returned HV.out, HR.out.1, HR.out.2.1, HR.out.2.2, HB.out⟩
/-- sixty-four bytes told -/
def Told64 (w : World) (T : Text) (e : Ending) (w' : World) : Prop := ∃ g c, e = .returned (.slice (some ⟨g, 0, none⟩) 64 c) ∧ 64 ≤ c ∧ Txt w' (some ⟨g, 0, none⟩) T ∧ Below w.heap.size w w'
theorem code_fill64 (b : UInt8) (X : Int) (hX : X = (b.toNat : Int)) (w : World) : Calls Try.prog 28 #[.int .u8 X] w (Told64 w (fillT b)) := by
  subst hX
  refine (code_fill b w).mono ?_
  rintro e w' ⟨g, c, h1, h2, _, h3, h4⟩
  rw [fillT_len] at h1 h2
  exact ⟨g, c, h1, h2, h3, h4⟩
theorem text_run_n (w : World) (A : Option Addr) (c n : Nat) (l : Text) (hn : l.length = n) (hT : Txt w A l) (hA : A = none → l = []) : (convert 40 9 (.slice A n c)).run Try.prog w = .ok (.string ⟨l.toArray⟩) w := by
  subst hn
  exact text_run w A c l hT hA
end Go.Proofs.Ytglbpbhdhnikbaa
